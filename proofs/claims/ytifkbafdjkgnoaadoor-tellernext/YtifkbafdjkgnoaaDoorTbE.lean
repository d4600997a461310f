/-
  Package table's mustHave, Get, Set, Drop.
-/
import Derived.Test.YtifkbafdjkgnoaaDoorTbD
namespace Go.Proofs.YtifkbafdjkgnoaaDoor
open Go.RowKit

/-- the four sentinels that package table names. -/
structure Se4 (w : World) (s : Nat → Addr) : Prop where
  c1 : w.cell? ⟨0, 0, none⟩ = some (.iface 95 (.pointer (some (s 1))))
  c3 : w.cell? ⟨4, 0, none⟩ = some (.iface 95 (.pointer (some (s 3))))
  c4 : w.cell? ⟨1, 0, none⟩ = some (.iface 95 (.pointer (some (s 4))))
  c5 : w.cell? ⟨2, 0, none⟩ = some (.iface 95 (.pointer (some (s 5))))
theorem Se4.below {w w' : World} {s : Nat → Addr} (S : Se4 w s) (hb : Below w.heap.size w w') : Se4 w' s := ⟨tk hb S.c1, tk hb S.c3, tk hb S.c4, tk hb S.c5⟩
/-- two of them: what Put and Add ask. -/
structure Se45 (w : World) (s : Nat → Addr) : Prop where
  c4 : w.cell? ⟨1, 0, none⟩ = some (.iface 95 (.pointer (some (s 4))))
  c5 : w.cell? ⟨2, 0, none⟩ = some (.iface 95 (.pointer (some (s 5))))
theorem Se45.below {w w' : World} {s : Nat → Addr} (S : Se45 w s) (hb : Below w.heap.size w w') : Se45 w' s := ⟨tk hb S.c4, tk hb S.c5⟩
theorem Se4.s45 {w : World} {s : Nat → Addr} (S : Se4 w s) : Se45 w s := ⟨S.c4, S.c5⟩
set_option maxRecDepth 100000 in
set_option maxHeartbeats 2000000 in
theorem must_any (b : Nat) (low : Int) (T : Tb) (k : Int) (s : Nat → Addr) (w : World) (S : Se4 w s) (t : Tab w b low T) :
    Calls Tryd.prog 32 #[.pointer (some ⟨b, 0, none⟩), .int .i64 k] w fun e w' => e = .returned (terr s (slotE T k)) ∧ Below w.heap.size w w' := by
  have HS : Hid (Se4 w s) := S
  have HT : Hid (Tab w b low T) := t
  have s1 := S.c1
  have s3 := S.c3
  clear t S
  by_cases hk : k < 0 ∨ 32 ≤ k
  · have hd : (decide (0 ≤ k) && decide (k < 32)) = false := by
      rcases hk with h | h
      · rw [decide_eq_false (by omega)]; rfl
      · rw [decide_eq_false (p := k < 32) (by omega), Bool.and_false]
    have he : Hid (slotE T k = 2) := by show _ = _; unfold slotE; rw [if_pos hk]
    go_enter Tryd.func32, Tryd.ntmps32
    go_wp2_with fail
    refine (isSlot_any k _).mono ?_
    rintro e w1 ⟨rfl, rfl⟩
    rw [hd]
    go_wp2_with fail
    go_ret
    exact ⟨by rw [he.out]; rfl, Below.refl _ _⟩
  · have h0 : 0 ≤ k := by omega
    have h1 : k < 32 := by omega
    obtain ⟨j, rfl⟩ : ∃ j : Nat, k = j := ⟨k.toNat, by omega⟩
    have hj : j < 32 := by omega
    have hd : (decide (0 ≤ (j : Int)) && decide ((j : Int) < 32)) = true := by rw [decide_eq_true h0, decide_eq_true h1]; rfl
    obtain ⟨c, hc⟩ : ∃ c, c = T j := ⟨_, rfl⟩
    have HE : Hid (slotE T (j : Int) = if c.pr = 0 then 4 else 0) := by
      show _ = _
      unfold slotE
      rw [if_neg hk, hc]
      rfl
    have a0 := HT.out.at' (k := 2) hj (by omega)
    have a1 := HT.out.at' (k := 3) hj (by omega)
    have a2 := HT.out.at' (k := 4) hj (by omega)
    have a3 := HT.out.at' (k := 5) hj (by omega)
    have a4 := HT.out.at' (k := 6) hj (by omega)
    have a5 := HT.out.at' (k := 7) hj (by omega)
    have a6 := HT.out.at' (k := 8) hj (by omega)
    have a7 := HT.out.at' (k := 9) hj (by omega)
    rw [← hc] at a0 a1 a2 a3 a4 a5 a6 a7
    simp only [Ce.get] at a0 a1 a2 a3 a4 a5 a6 a7
    clear hk hc
    go_enter Tryd.func32, Tryd.ntmps32
    go_wp2_with fail
    refine (isSlot_any j _).mono ?_
    rintro e w1 ⟨rfl, rfl⟩
    rw [hd]
    go_wp2_with fail
    refine (isFlow_any c _).mono ?_
    rintro e w2 ⟨rfl, hb2⟩
    have B2 : Hid (Below w1.heap.size w1 w2) := hb2
    have s3 := tk hb2 s3
    clear hb2 a0 a1 a2 a3 a4 a5 a6 a7 s1
    by_cases hp : c.pr = 0
    · have hpb : (c.pr != 0) = false := by rw [hp]; rfl
      rw [hpb]
      go_wp2_with fail
      go_ret
      exact ⟨by rw [HE.out, if_pos hp]; rfl, B2.out⟩
    · have hpb : (c.pr != 0) = true := bne_iff_ne.2 hp
      rw [hpb]
      go_wp2_with fail
      go_ret
      exact ⟨by rw [HE.out, if_neg hp]; rfl, B2.out⟩
end Go.Proofs.YtifkbafdjkgnoaaDoor
