/-
  Package table's Drop.
-/
import Derived.Test.YtifkbafdjkgnoaaDoorTbE
namespace Go.Proofs.YtifkbafdjkgnoaaDoor
open Go.RowKit

theorem terr_ne (s : Nat → Addr) {n : Nat} (h : n ≠ 0) : ∃ v, terr s n = .iface 95 v := by
  cases n with
  | zero => exact absurd rfl h
  | succ k => exact ⟨_, rfl⟩
set_option maxRecDepth 100000 in
set_option maxHeartbeats 2000000 in
theorem drop_any (b : Nat) (low : Int) (T : Tb) (k : Int) (n : Nat) (s : Nat → Addr) (w : World) (S : Se4 w s) (t : Tab w b low T) (hv : Vers T n) (hn : n ≤ 1000000) :
    Calls Tryd.prog 12 #[.pointer (some ⟨b, 0, none⟩), .int .i64 k] w fun e w' => e = .returned (terr s (slotE T k)) ∧ Tab w' b low (dropT T k) ∧ Chg b w w' := by
  have HS : Hid (Se4 w s) := S
  have HT : Hid (Tab w b low T) := t
  have HV : Hid (Vers T n) := hv
  clear t S hv
  go_enter Tryd.func12, Tryd.ntmps12
  go_wp2_with fail
  refine (must_any b low T k s _ HS.out HT.out).mono ?_
  rintro e w1 ⟨rfl, hb1⟩
  have B1 : Hid (Below w.heap.size w w1) := hb1
  have T1 : Hid (Tab w1 b low T) := HT.out.below hb1
  clear hb1
  by_cases he : slotE T k = 0
  · have HE : Hid (slotE T k = 0) := he
    obtain ⟨h0, h1, _⟩ := slotE_ok he
    obtain ⟨j, rfl⟩ : ∃ j : Nat, k = j := ⟨k.toNat, by omega⟩
    have hj : j < 32 := by omega
    rw [he]
    simp only [terr]
    clear he
    go_wp2_with fail
    have hve := HV.out j hj
    refine (lay_any b low T j noC w1 T1.out hj hve.1 (by omega)).mono ?_
    rintro e w2 ⟨rfl, t2', c2⟩
    have T2 : Hid (Tab w2 b low (dropT T j)) := by
      show Tab w2 b low (dropT T j)
      unfold dropT
      rw [if_pos HE.out, Int.toNat_natCast]
      exact t2'
    have C2 : Hid (Chg b w w2) := (Chg.of B1.out).trans c2
    clear t2' c2 hve
    go_wp2_with fail
    go_ret
    exact ⟨by rw [HE.out]; rfl, T2.out, C2.out⟩
  · have HE : Hid (slotE T k ≠ 0) := he
    obtain ⟨v, hv⟩ := terr_ne s he
    rw [hv]
    clear he
    go_wp2_with fail
    go_ret
    refine ⟨hv ▸ rfl, ?_, Chg.of B1.out⟩
    unfold dropT
    rw [if_neg HE.out]
    exact T1.out
end Go.Proofs.YtifkbafdjkgnoaaDoor
