/-
  Package table's Set.
-/
import Derived.Test.YtifkbafdjkgnoaaDoorTbF
namespace Go.Proofs.YtifkbafdjkgnoaaDoor
open Go.RowKit

theorem Vers.set {T : Tb} {n : Nat} (h : Vers T n) (k st un : Int) : Vers (setT T k st un) (n + 1) := by
  unfold setT
  split
  · rename_i e
    have := slotE_ok e
    exact h.lay (k := k.toNat) (T k.toNat).pr (T k.toNat).ia (T k.toNat).ip (T k.toNat).fa (T k.toNat).fp (T k.toNat).po st un (by omega)
  · exact h.more (by omega)
set_option maxRecDepth 100000 in
set_option maxHeartbeats 4000000 in
theorem set_any (b : Nat) (low : Int) (T : Tb) (k st un : Int) (n : Nat) (s : Nat → Addr) (w : World) (S : Se4 w s) (t : Tab w b low T) (hv : Vers T n) (hn : n ≤ 1000000) :
    Calls Tryd.prog 11 #[.pointer (some ⟨b, 0, none⟩), .int .i64 k, .int .i64 st, .int .i64 un] w fun e w' => e = .returned (terr s (slotE T k)) ∧ Tab w' b low (setT T k st un) ∧ Chg b w w' := by
  have HS : Hid (Se4 w s) := S
  have HT : Hid (Tab w b low T) := t
  have HV : Hid (Vers T n) := hv
  clear t S hv
  go_enter Tryd.func11, Tryd.ntmps11
  go_wp2_with fail
  refine (must_any b low T k s _ HS.out HT.out).mono ?_
  rintro e w1 ⟨rfl, hb1⟩
  have B1 : Hid (Below w.heap.size w w1) := hb1
  have T1 : Hid (Tab w1 b low T) := HT.out.below hb1
  clear hb1
  by_cases he : slotE T k = 0
  · have HE : Hid (slotE T k = 0) := he
    obtain ⟨h0, h1, _⟩ := slotE_ok he
    obtain ⟨j, rfl⟩ : ∃ j : Nat, k = j := ⟨k.toNat, by omega⟩
    have hj : j < 32 := by omega
    rw [he]
    simp only [terr]
    clear he
    obtain ⟨c, hc⟩ : ∃ c, c = T j := ⟨_, rfl⟩
    have HC : Hid (c = T j) := hc
    have a2 := T1.out.at' (i := j) (k := 2) hj (by omega)
    have a3 := T1.out.at' (i := j) (k := 3) hj (by omega)
    have a4 := T1.out.at' (i := j) (k := 4) hj (by omega)
    have a5 := T1.out.at' (i := j) (k := 5) hj (by omega)
    have a6 := T1.out.at' (i := j) (k := 6) hj (by omega)
    have a7 := T1.out.at' (i := j) (k := 7) hj (by omega)
    have a8 := T1.out.at' (i := j) (k := 8) hj (by omega)
    have a9 := T1.out.at' (i := j) (k := 9) hj (by omega)
    rw [← hc] at a2 a3 a4 a5 a6 a7 a8 a9
    simp only [Ce.get] at a2 a3 a4 a5 a6 a7 a8 a9
    clear hc
    go_wp2_with fail
    clear a2 a3 a4 a5 a6 a7 a8 a9
    have hve := HV.out j hj
    refine (lay_any b low T j ⟨0, c.pr, c.ia, c.ip, c.fa, c.fp, c.po, st, un⟩ _ (T1.out.below (aB _ _)) hj hve.1 (by omega)).mono ?_
    rintro e w2 ⟨rfl, t2', c2⟩
    have T2 : Hid (Tab w2 b low (setT T j st un)) := by
      show Tab w2 b low (setT T j st un)
      unfold setT
      rw [if_pos HE.out, Int.toNat_natCast]
      rw [HC.out] at t2'
      exact t2'
    have C2 : Hid (Chg b w w2) := (Chg.of (t2 B1.out (aB _ _))).trans c2
    clear t2' c2 hve
    go_wp2_with fail
    go_ret
    exact ⟨by rw [HE.out]; rfl, T2.out, C2.out⟩
  · have HE : Hid (slotE T k ≠ 0) := he
    obtain ⟨v, hv⟩ := terr_ne s he
    rw [hv]
    clear he
    go_wp2_with fail
    go_ret
    refine ⟨hv ▸ rfl, ?_, Chg.of B1.out⟩
    unfold setT
    rw [if_neg HE.out]
    exact T1.out
end Go.Proofs.YtifkbafdjkgnoaaDoor
