/-
  Package role's Claim, Hear; the laws' closed fact 'stands': a standby claims.
-/
import Derived.Test.YthmnmdikpccenacDoorRoA
namespace Go.Proofs.YthmnmdikpccenacDoor
open Go.RowKit

set_option maxRecDepth 100000 in
set_option maxHeartbeats 2000000 in
theorem claim_any (b : Nat) (r : Ro) (n : Int) (s : Nat → Addr) (w : World) (R : Rol w b r) (K : r.Ok) (S : Se3 w s) :
    Calls Tryd.prog 44 #[.pointer (some ⟨b, 0, none⟩), .int .i64 n] w fun e w' => e = .returned (terr s (r.clE n)) ∧ Rol w' b (r.claim n) ∧ Chg b w w' := by
  have HR : Hid (Rol w b r) := R
  have HK : Hid r.Ok := K
  have HS : Hid (Se3 w s) := S
  clear R K S
  cases ha : r.ac
  · by_cases h2 : 1073741824 < r.nx
    · have HE : Hid (r.clE n = 2) := by show _ = _; unfold Ro.clE; rw [ha, if_neg (by simp), if_pos h2]
      have HQ : Hid (r.claim n = r) := by show _ = _; unfold Ro.claim; rw [HE.out]; rfl
      have HV : Hid (r.nxV = 0 ∧ r.nxE = 2) := by show _ ∧ _; unfold Ro.nxV Ro.nxE; rw [if_pos h2, if_pos h2]; exact ⟨rfl, rfl⟩
      have HA : Hid (r.ac = false) := ha
      clear ha h2
      go_enter Tryd.func44, Tryd.ntmps44
      go_wp2_with fail
      refine (active_any b r w HR.out).mono ?_
      rintro e w1 ⟨rfl, rfl⟩
      rw [HA.out]
      go_wp2_with fail
      refine (next_any b r s _ HR.out HK.out HS.out).mono ?_
      rintro e w2 ⟨rfl, hb⟩
      have B2 : Hid (Below w1.heap.size w1 w2) := hb
      clear hb
      rw [HV.out.1, HV.out.2]
      simp only [terr]
      go_wp2_with fail
      go_ret
      exact ⟨by rw [HE.out]; rfl, by rw [HQ.out]; exact HR.out.below B2.out, Chg.of B2.out⟩
    · have HV : Hid (r.nxV = r.nx ∧ r.nxE = 0) := by show _ ∧ _; unfold Ro.nxV Ro.nxE; rw [if_neg h2, if_neg h2]; exact ⟨rfl, rfl⟩
      by_cases hn : n = r.nx
      · have HE : Hid (r.clE n = 0) := by show _ = _; unfold Ro.clE; rw [ha, if_neg (by simp), if_neg h2, if_pos hn]
        have HQ : Hid (r.claim n = ⟨r.nd, n, r.si, true⟩) := by show _ = _; unfold Ro.claim; rw [HE.out]; rfl
        have HA : Hid (r.ac = false) := ha
        have HN : Hid (r.nx = n) := hn.symm
        clear ha h2 hn
        go_enter Tryd.func44, Tryd.ntmps44
        go_wp2_with fail
        refine (active_any b r w HR.out).mono ?_
        rintro e w1 ⟨rfl, rfl⟩
        rw [HA.out]
        go_wp2_with fail
        refine (next_any b r s _ HR.out HK.out HS.out).mono ?_
        rintro e w2 ⟨rfl, hb⟩
        have B2 : Hid (Below w1.heap.size w1 w2) := hb
        clear hb
        rw [HV.out.1, HV.out.2, HN.out]
        simp only [terr]
        have R2 : Hid (Rol w2 b r) := HR.out.below B2.out
        have c1 := R2.out.c1
        have c3 := R2.out.c3
        have f1 := R2.out.fr 1
        have f3 := R2.out.fr 3
        go_wp2_with fail
        go_ret
        exact ⟨by rw [HE.out]; rfl, by rw [HQ.out]; exact (R2.out.ep n).ac true, ((Chg.of B2.out).trans (Chg.set _ _ _ _)).trans (Chg.set _ _ _ _)⟩
      · have HE : Hid (r.clE n = 3) := by show _ = _; unfold Ro.clE; rw [ha, if_neg (by simp), if_neg h2, if_neg hn]
        have HQ : Hid (r.claim n = r) := by show _ = _; unfold Ro.claim; rw [HE.out]; rfl
        have HA : Hid (r.ac = false) := ha
        clear ha h2
        generalize hx : r.nx = x at *
        have HX : Hid (r.nx = x) := hx
        clear hx
        go_enter Tryd.func44, Tryd.ntmps44
        go_wp2_with fail
        refine (active_any b r w HR.out).mono ?_
        rintro e w1 ⟨rfl, rfl⟩
        rw [HA.out]
        go_wp2_with fail
        refine (next_any b r s _ HR.out HK.out HS.out).mono ?_
        rintro e w2 ⟨rfl, hb⟩
        have B2 : Hid (Below w1.heap.size w1 w2) := hb
        clear hb
        rw [HV.out.1, HV.out.2]
        simp only [terr]
        have g2 := (HS.out.below B2.out).c2
        go_wp2_with fail
        go_ret
        exact ⟨by rw [HE.out]; rfl, by rw [HQ.out]; exact HR.out.below B2.out, Chg.of B2.out⟩
  · have HE : Hid (r.clE n = 11) := by show _ = _; unfold Ro.clE; rw [ha, if_pos rfl]
    have HQ : Hid (r.claim n = r) := by show _ = _; unfold Ro.claim; rw [HE.out]; rfl
    have HA : Hid (r.ac = true) := ha
    clear ha
    have g10 := HS.out.c10
    go_enter Tryd.func44, Tryd.ntmps44
    go_wp2_with fail
    refine (active_any b r w HR.out).mono ?_
    rintro e w1 ⟨rfl, rfl⟩
    rw [HA.out]
    go_wp2_with fail
    go_ret
    exact ⟨by rw [HE.out]; rfl, by rw [HQ.out]; exact HR.out, Chg.refl _ _⟩
/-- what a law has: a role, all else as it was in w0. -/
structure Rl1 (w0 w : World) (b : Nat) (r : Ro) : Prop where
  y : Rol w b r
  k : r.Ok
  hb : w0.heap.size ≤ b
  bl : Below w0.heap.size w0 w
theorem Rl1.below {w0 w w' : World} {b : Nat} {r : Ro} (h : Rl1 w0 w b r) (k : Below w.heap.size w w') : Rl1 w0 w' b r := ⟨h.y.below k, h.k, h.hb, t2 h.bl k⟩
theorem new_r1 (nd ep : Int) {w0 w : World} (hb : Below w0.heap.size w0 w) (h : nd = 0 ∨ nd = 1) (h0 : 0 ≤ ep) (h1 : ep ≤ 1073741824) :
    Calls Tryd.prog 20 #[.int .i64 nd, .int .i64 ep] w fun e w' => ∃ b, e = .returned (.tuple #[.pointer (some ⟨b, 0, none⟩), .nilIface]) ∧ Rl1 w0 w' b (Ro.new nd ep) := by
  refine (newR_ok nd ep w h h0 h1).mono ?_
  rintro e w' ⟨⟨rfl, a1⟩, a2⟩
  exact ⟨_, rfl, a1, .new h h0 h1, hb.size, t2 hb a2⟩
theorem next_r1 {w0 w : World} {b : Nat} {r : Ro} (h : Rl1 w0 w b r) (s : Nat → Addr) (S : Se3 w0 s) :
    Calls Tryd.prog 42 #[.pointer (some ⟨b, 0, none⟩)] w fun e w' => e = .returned (.tuple #[.int .i64 r.nxV, terr s r.nxE]) ∧ Rl1 w0 w' b r := by
  refine (next_any b r s w h.y h.k (S.below h.bl)).mono ?_
  rintro e w' ⟨rfl, a1⟩
  exact ⟨rfl, h.below a1⟩
theorem claim_r1 {w0 w : World} {b : Nat} {r : Ro} (h : Rl1 w0 w b r) (n : Int) (s : Nat → Addr) (S : Se3 w0 s) :
    Calls Tryd.prog 44 #[.pointer (some ⟨b, 0, none⟩), .int .i64 n] w fun e w' => e = .returned (terr s (r.clE n)) ∧ Rl1 w0 w' b (r.claim n) := by
  refine (claim_any b r n s w h.y h.k (S.below h.bl)).mono ?_
  rintro e w' ⟨rfl, a1, a2⟩
  exact ⟨rfl, a1, h.k.claim n, h.hb, Chg.below h.bl a2 h.hb⟩
theorem tick_r1 {w0 w : World} {b : Nat} {r : Ro} (h : Rl1 w0 w b r) :
    Calls Tryd.prog 28 #[.pointer (some ⟨b, 0, none⟩)] w fun e w' => e = .returned (.bool r.rings) ∧ Rl1 w0 w' b r.tick := by
  refine (tick_any b r w h.y h.k).mono ?_
  rintro e w' ⟨rfl, a1, a2⟩
  exact ⟨rfl, a1, h.k.tick, h.hb, Chg.below h.bl a2 h.hb⟩
end Go.Proofs.YthmnmdikpccenacDoor
