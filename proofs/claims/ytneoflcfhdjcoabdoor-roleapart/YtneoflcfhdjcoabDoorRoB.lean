/-
  Package role's Claim, Hear; the laws' closed fact 'stands': a standby claims.
-/
import Derived.Test.YtneoflcfhdjcoabDoorRoA
namespace Go.Proofs.YtneoflcfhdjcoabDoor
open Go.RowKit

set_option maxRecDepth 100000 in
set_option maxHeartbeats 2000000 in
theorem claim_any (b : Nat) (r : Ro) (n : Int) (s : Nat → Addr) (w : World) (R : Rol w b r) (K : r.Ok) (S : Se3 w s) :
    Calls Tryd.prog 76 #[.pointer (some ⟨b, 0, none⟩), .int .i64 n] w fun e w' => e = .returned (terr s (r.clE n)) ∧ Rol w' b (r.claim n) ∧ Chg b w w' := by
  have HR : Hid (Rol w b r) := R
  have HK : Hid r.Ok := K
  have HS : Hid (Se3 w s) := S
  clear R K S
  cases ha : r.ac
  · by_cases h2 : 1073741824 < r.nx
    · have HE : Hid (r.clE n = 2) := by show _ = _; unfold Ro.clE; rw [ha, if_neg (by simp), if_pos h2]
      have HQ : Hid (r.claim n = r) := by show _ = _; unfold Ro.claim; rw [HE.out]; rfl
      have HV : Hid (r.nxV = 0 ∧ r.nxE = 2) := by show _ ∧ _; unfold Ro.nxV Ro.nxE; rw [if_pos h2, if_pos h2]; exact ⟨rfl, rfl⟩
      have HA : Hid (r.ac = false) := ha
      clear ha h2
      go_enter Tryd.func76, Tryd.ntmps76
      go_wp2_with fail
      refine (active_any b r w HR.out).mono ?_
      rintro e w1 ⟨rfl, rfl⟩
      rw [HA.out]
      go_wp2_with fail
      refine (next_any b r s _ HR.out HK.out HS.out).mono ?_
      rintro e w2 ⟨rfl, hb⟩
      have B2 : Hid (Below w1.heap.size w1 w2) := hb
      clear hb
      rw [HV.out.1, HV.out.2]
      simp only [terr]
      go_wp2_with fail
      go_ret
      exact ⟨by rw [HE.out]; rfl, by rw [HQ.out]; exact HR.out.below B2.out, Chg.of B2.out⟩
    · have HV : Hid (r.nxV = r.nx ∧ r.nxE = 0) := by show _ ∧ _; unfold Ro.nxV Ro.nxE; rw [if_neg h2, if_neg h2]; exact ⟨rfl, rfl⟩
      by_cases hn : n = r.nx
      · have HE : Hid (r.clE n = 0) := by show _ = _; unfold Ro.clE; rw [ha, if_neg (by simp), if_neg h2, if_pos hn]
        have HQ : Hid (r.claim n = ⟨r.nd, n, r.si, true⟩) := by show _ = _; unfold Ro.claim; rw [HE.out]; rfl
        have HA : Hid (r.ac = false) := ha
        have HN : Hid (r.nx = n) := hn.symm
        clear ha h2 hn
        go_enter Tryd.func76, Tryd.ntmps76
        go_wp2_with fail
        refine (active_any b r w HR.out).mono ?_
        rintro e w1 ⟨rfl, rfl⟩
        rw [HA.out]
        go_wp2_with fail
        refine (next_any b r s _ HR.out HK.out HS.out).mono ?_
        rintro e w2 ⟨rfl, hb⟩
        have B2 : Hid (Below w1.heap.size w1 w2) := hb
        clear hb
        rw [HV.out.1, HV.out.2, HN.out]
        simp only [terr]
        have R2 : Hid (Rol w2 b r) := HR.out.below B2.out
        have c1 := R2.out.c1
        have c3 := R2.out.c3
        have f1 := R2.out.fr 1
        have f3 := R2.out.fr 3
        go_wp2_with fail
        go_ret
        exact ⟨by rw [HE.out]; rfl, by rw [HQ.out]; exact (R2.out.ep n).ac true, ((Chg.of B2.out).trans (Chg.set _ _ _ _)).trans (Chg.set _ _ _ _)⟩
      · have HE : Hid (r.clE n = 3) := by show _ = _; unfold Ro.clE; rw [ha, if_neg (by simp), if_neg h2, if_neg hn]
        have HQ : Hid (r.claim n = r) := by show _ = _; unfold Ro.claim; rw [HE.out]; rfl
        have HA : Hid (r.ac = false) := ha
        clear ha h2
        generalize hx : r.nx = x at *
        have HX : Hid (r.nx = x) := hx
        clear hx
        go_enter Tryd.func76, Tryd.ntmps76
        go_wp2_with fail
        refine (active_any b r w HR.out).mono ?_
        rintro e w1 ⟨rfl, rfl⟩
        rw [HA.out]
        go_wp2_with fail
        refine (next_any b r s _ HR.out HK.out HS.out).mono ?_
        rintro e w2 ⟨rfl, hb⟩
        have B2 : Hid (Below w1.heap.size w1 w2) := hb
        clear hb
        rw [HV.out.1, HV.out.2]
        simp only [terr]
        have g2 := (HS.out.below B2.out).c2
        go_wp2_with fail
        go_ret
        exact ⟨by rw [HE.out]; rfl, by rw [HQ.out]; exact HR.out.below B2.out, Chg.of B2.out⟩
  · have HE : Hid (r.clE n = 11) := by show _ = _; unfold Ro.clE; rw [ha, if_pos rfl]
    have HQ : Hid (r.claim n = r) := by show _ = _; unfold Ro.claim; rw [HE.out]; rfl
    have HA : Hid (r.ac = true) := ha
    clear ha
    have g10 := HS.out.c10
    go_enter Tryd.func76, Tryd.ntmps76
    go_wp2_with fail
    refine (active_any b r w HR.out).mono ?_
    rintro e w1 ⟨rfl, rfl⟩
    rw [HA.out]
    go_wp2_with fail
    go_ret
    exact ⟨by rw [HE.out]; rfl, by rw [HQ.out]; exact HR.out, Chg.refl _ _⟩
set_option maxRecDepth 100000 in
set_option maxHeartbeats 2000000 in
theorem hear_any (b : Nat) (r : Ro) (n : Int) (w : World) (R : Rol w b r) :
    Calls Tryd.prog 77 #[.pointer (some ⟨b, 0, none⟩), .int .i64 n] w fun e w' => e = .returned (.bool (r.falls n)) ∧ Rol w' b (r.hear n) ∧ Chg b w w' := by
  obtain ⟨nd, ep, si, ac⟩ := r
  have HR : Hid (Rol w b ⟨nd, ep, si, ac⟩) := R
  have g1 : w.cell? ⟨b, 1, none⟩ = some (.int .i64 ep) := R.c1
  have g2 : w.cell? ⟨b, 2, none⟩ = some (.int .i64 si) := R.c2
  have g3 : w.cell? ⟨b, 3, none⟩ = some (.bool ac) := R.c3
  have f1 := R.fr 1
  have f2 := R.fr 2
  have f3 := R.fr 3
  clear R
  cases hp : isEpR n
  · have HP : Hid (isEpR n = false) := hp
    have HH : Hid ((⟨nd, ep, si, ac⟩ : Ro).heard n = false) := by show _ = _; unfold Ro.heard; rw [hp]; rfl
    have HF : Hid ((⟨nd, ep, si, ac⟩ : Ro).falls n = false) := by show _ = _; unfold Ro.falls; rw [HH.out]; rfl
    have HQ : Hid ((⟨nd, ep, si, ac⟩ : Ro).hear n = ⟨nd, ep, si, ac⟩) := by show _ = _; unfold Ro.hear; rw [HH.out]; rfl
    clear hp
    go_enter Tryd.func77, Tryd.ntmps77
    go_wp2_with fail
    refine (isEpochR_any n w).mono ?_
    rintro e w1 ⟨rfl, rfl⟩
    rw [HP.out]
    go_wp2_with fail
    go_ret
    exact ⟨by rw [HF.out]; rfl, by rw [HQ.out]; exact HR.out, Chg.refl _ _⟩
  · have HP : Hid (isEpR n = true) := hp
    by_cases hl : n < ep
    · have HH : Hid ((⟨nd, ep, si, ac⟩ : Ro).heard n = false) := by show _ = _; unfold Ro.heard; rw [hp]; simp [hl]
      have HF : Hid ((⟨nd, ep, si, ac⟩ : Ro).falls n = false) := by show _ = _; unfold Ro.falls; rw [HH.out]; rfl
      have HQ : Hid ((⟨nd, ep, si, ac⟩ : Ro).hear n = ⟨nd, ep, si, ac⟩) := by show _ = _; unfold Ro.hear; rw [HH.out]; rfl
      clear hp
      go_enter Tryd.func77, Tryd.ntmps77
      go_wp2_with fail
      refine (isEpochR_any n w).mono ?_
      rintro e w1 ⟨rfl, rfl⟩
      rw [HP.out]
      go_wp2_with fail
      go_ret
      exact ⟨by rw [HF.out]; rfl, by rw [HQ.out]; exact HR.out, Chg.refl _ _⟩
    · have HH : Hid ((⟨nd, ep, si, ac⟩ : Ro).heard n = true) := by show _ = _; unfold Ro.heard; rw [hp]; simp [hl]
      have HF : Hid ((⟨nd, ep, si, ac⟩ : Ro).falls n = (ac && decide (ep < n))) := by show _ = _; unfold Ro.falls; rw [HH.out]; rfl
      have HQ : Hid ((⟨nd, ep, si, ac⟩ : Ro).hear n = ⟨nd, n, 0, ac && !decide (ep < n)⟩) := by show _ = _; unfold Ro.hear; rw [HH.out]; rfl
      clear hp
      cases ac
      · go_enter Tryd.func77, Tryd.ntmps77
        go_wp2_with fail
        refine (isEpochR_any n w).mono ?_
        rintro e w1 ⟨rfl, rfl⟩
        rw [HP.out]
        go_wp2_with fail
        go_ret
        exact ⟨by rw [HF.out]; rfl, by rw [HQ.out]; exact ((HR.out.ac false).ep n).si 0, ((Chg.set _ _ _ _).trans (Chg.set _ _ _ _)).trans (Chg.set _ _ _ _)⟩
      · by_cases hg : ep < n
        · rw [decide_eq_true hg] at HF HQ
          go_enter Tryd.func77, Tryd.ntmps77
          go_wp2_with fail
          refine (isEpochR_any n w).mono ?_
          rintro e w1 ⟨rfl, rfl⟩
          rw [HP.out]
          go_wp2_with fail
          go_ret
          exact ⟨by rw [HF.out]; rfl, by rw [HQ.out]; exact ((HR.out.ac false).ep n).si 0, ((Chg.set _ _ _ _).trans (Chg.set _ _ _ _)).trans (Chg.set _ _ _ _)⟩
        · rw [decide_eq_false hg] at HF HQ
          have hd : decide (ep < n) = false := decide_eq_false hg
          clear hg
          go_enter Tryd.func77, Tryd.ntmps77
          go_wp2_with fail
          refine (isEpochR_any n w).mono ?_
          rintro e w1 ⟨rfl, rfl⟩
          rw [HP.out]
          go_wp2_with fail
          go_ret
          exact ⟨by rw [HF.out]; rfl, by rw [HQ.out]; exact ((HR.out.ac true).ep n).si 0, ((Chg.set _ _ _ _).trans (Chg.set _ _ _ _)).trans (Chg.set _ _ _ _)⟩
/-- what a law has: a role, all else as it was in w0. -/
structure Rl1 (w0 w : World) (b : Nat) (r : Ro) : Prop where
  y : Rol w b r
  k : r.Ok
  hb : w0.heap.size ≤ b
  bl : Below w0.heap.size w0 w
theorem Rl1.below {w0 w w' : World} {b : Nat} {r : Ro} (h : Rl1 w0 w b r) (k : Below w.heap.size w w') : Rl1 w0 w' b r := ⟨h.y.below k, h.k, h.hb, t2 h.bl k⟩
theorem new_r1 (nd ep : Int) {w0 w : World} (hb : Below w0.heap.size w0 w) (h : nd = 0 ∨ nd = 1) (h0 : 0 ≤ ep) (h1 : ep ≤ 1073741824) :
    Calls Tryd.prog 73 #[.int .i64 nd, .int .i64 ep] w fun e w' => ∃ b, e = .returned (.tuple #[.pointer (some ⟨b, 0, none⟩), .nilIface]) ∧ Rl1 w0 w' b (Ro.new nd ep) := by
  refine (newR_ok nd ep w h h0 h1).mono ?_
  rintro e w' ⟨⟨rfl, a1⟩, a2⟩
  exact ⟨_, rfl, a1, .new h h0 h1, hb.size, t2 hb a2⟩
theorem next_r1 {w0 w : World} {b : Nat} {r : Ro} (h : Rl1 w0 w b r) (s : Nat → Addr) (S : Se3 w0 s) :
    Calls Tryd.prog 74 #[.pointer (some ⟨b, 0, none⟩)] w fun e w' => e = .returned (.tuple #[.int .i64 r.nxV, terr s r.nxE]) ∧ Rl1 w0 w' b r := by
  refine (next_any b r s w h.y h.k (S.below h.bl)).mono ?_
  rintro e w' ⟨rfl, a1⟩
  exact ⟨rfl, h.below a1⟩
theorem claim_r1 {w0 w : World} {b : Nat} {r : Ro} (h : Rl1 w0 w b r) (n : Int) (s : Nat → Addr) (S : Se3 w0 s) :
    Calls Tryd.prog 76 #[.pointer (some ⟨b, 0, none⟩), .int .i64 n] w fun e w' => e = .returned (terr s (r.clE n)) ∧ Rl1 w0 w' b (r.claim n) := by
  refine (claim_any b r n s w h.y h.k (S.below h.bl)).mono ?_
  rintro e w' ⟨rfl, a1, a2⟩
  exact ⟨rfl, a1, h.k.claim n, h.hb, Chg.below h.bl a2 h.hb⟩
theorem hear_r1 {w0 w : World} {b : Nat} {r : Ro} (h : Rl1 w0 w b r) (n : Int) :
    Calls Tryd.prog 77 #[.pointer (some ⟨b, 0, none⟩), .int .i64 n] w fun e w' => e = .returned (.bool (r.falls n)) ∧ Rl1 w0 w' b (r.hear n) := by
  refine (hear_any b r n w h.y).mono ?_
  rintro e w' ⟨rfl, a1, a2⟩
  exact ⟨rfl, a1, h.k.hear n, h.hb, Chg.below h.bl a2 h.hb⟩
theorem tick_r1 {w0 w : World} {b : Nat} {r : Ro} (h : Rl1 w0 w b r) :
    Calls Tryd.prog 79 #[.pointer (some ⟨b, 0, none⟩)] w fun e w' => e = .returned (.bool r.rings) ∧ Rl1 w0 w' b r.tick := by
  refine (tick_any b r w h.y h.k).mono ?_
  rintro e w' ⟨rfl, a1, a2⟩
  exact ⟨rfl, a1, h.k.tick, h.hb, Chg.below h.bl a2 h.hb⟩
set_option maxRecDepth 100000 in
set_option maxHeartbeats 2000000 in
theorem stands_any (s : Nat → Addr) (w : World) (S : Se3 w s) : Calls Tryd.prog 72 #[] w fun e w' => e = .returned (.bool true) ∧ Below w.heap.size w w' := by
  have HS : Hid (Se3 w s) := S
  clear S
  go_enter Tryd.func72, Tryd.ntmps72
  go_wp2_with fail
  refine (new_r1 1 6 (Below.refl _ _) (Or.inr rfl) (by omega) (by omega)).mono ?_
  rintro e w1 ⟨b, rfl, h1⟩
  have R1 : Hid (Rl1 w w1 b (Ro.new 1 6)) := h1
  clear h1
  go_wp2_with fail
  refine (active_any b _ w1 R1.out.y).mono ?_
  rintro e w2 ⟨rfl, rfl⟩
  simp only [Ro.new]
  go_wp2_with fail
  refine (next_r1 R1.out s HS.out).mono ?_
  rintro e w3 ⟨rfl, h3⟩
  have R3 : Hid (Rl1 w w3 b (Ro.new 1 6)) := h3
  clear h3 R1
  rw [show (Ro.new 1 6).nxV = 7 by decide, show (Ro.new 1 6).nxE = 0 by decide]
  simp only [terr]
  go_wp2_with fail
  refine (claim_r1 R3.out 7 s HS.out).mono ?_
  rintro e w4 ⟨rfl, h4⟩
  rw [show (Ro.new 1 6).clE 7 = 0 by decide]
  rw [show (Ro.new 1 6).claim 7 = ⟨1, 7, 0, true⟩ by unfold Ro.claim; rw [show (Ro.new 1 6).clE 7 = 0 by decide]; rfl] at h4
  have R4 : Hid (Rl1 w w4 b ⟨1, 7, 0, true⟩) := h4
  clear h4 R3
  simp only [terr]
  go_wp2_with fail
  refine (active_any b _ w4 R4.out.y).mono ?_
  rintro e w5 ⟨rfl, rfl⟩
  simp only
  go_wp2_with fail
  refine (epochR_any b _ _ R4.out.y).mono ?_
  rintro e w6 ⟨rfl, rfl⟩
  simp only
  go_wp2_with fail
  go_ret
  exact ⟨rfl, R4.out.bl⟩
end Go.Proofs.YtneoflcfhdjcoabDoor
