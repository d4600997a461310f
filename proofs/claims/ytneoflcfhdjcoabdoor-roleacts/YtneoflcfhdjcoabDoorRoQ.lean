/-
  The document's Claim and Hear; both roles in a law's walk, and each call over them.
-/
import Derived.Test.YtneoflcfhdjcoabDoorRoR
namespace Go.Proofs.YtneoflcfhdjcoabDoor
open Go.RowKit

set_option maxRecDepth 100000 in
set_option maxHeartbeats 2000000 in
theorem rclaim_any (b : Nat) (q : Ro) (n : Int) (w : World) (R : RRol w b q) (hn : q.nd = 0 ∨ q.nd = 1) (h0 : 0 ≤ q.ep) (h1 : q.ep ≤ 1073741824) :
    Calls Tryd.prog 82 #[.pointer (some ⟨b, 0, none⟩), .int .i64 n] w fun e w' => e = .returned (.int .i64 (q.clE n : Int)) ∧ RRol w' b (q.claim n) ∧ Chg b w w' := by
  have HR : Hid (RRol w b q) := R
  have HN : Hid ((q.nd = 0 ∨ q.nd = 1) ∧ 0 ≤ q.ep ∧ q.ep ≤ 1073741824) := ⟨hn, h0, h1⟩
  have c1 := R.c1
  have c3 := R.c3
  have f1 := R.fr 1
  have f3 := R.fr 3
  clear R hn h0 h1
  cases ha : q.ac
  · rw [ha] at c3
    by_cases h2 : 1073741824 < q.nx
    · have HE : Hid (q.clE n = 2) := by show _ = _; unfold Ro.clE; rw [ha, if_neg (by simp), if_pos h2]
      have HQ : Hid (q.claim n = q) := by show _ = _; unfold Ro.claim; rw [HE.out]; rfl
      have HV : Hid (q.nxV = 0 ∧ q.nxE = 2) := by show _ ∧ _; unfold Ro.nxV Ro.nxE; rw [if_pos h2, if_pos h2]; exact ⟨rfl, rfl⟩
      clear ha h2
      go_enter Tryd.func82, Tryd.ntmps82
      go_wp2_with fail
      refine (rnext_any b q _ HR.out HN.out.1 HN.out.2.1 HN.out.2.2).mono ?_
      rintro e w2 ⟨rfl, rfl⟩
      rw [HV.out.1, HV.out.2]
      go_wp2_with fail
      go_ret
      exact ⟨by rw [HE.out]; rfl, by rw [HQ.out]; exact HR.out, Chg.refl _ _⟩
    · have HV : Hid (q.nxV = q.nx ∧ q.nxE = 0) := by show _ ∧ _; unfold Ro.nxV Ro.nxE; rw [if_neg h2, if_neg h2]; exact ⟨rfl, rfl⟩
      by_cases hn : n = q.nx
      · have HE : Hid (q.clE n = 0) := by show _ = _; unfold Ro.clE; rw [ha, if_neg (by simp), if_neg h2, if_pos hn]
        have HQ : Hid (q.claim n = ⟨q.nd, n, q.si, true⟩) := by show _ = _; unfold Ro.claim; rw [HE.out]; rfl
        have HX : Hid (q.nx = n) := hn.symm
        clear ha h2 hn
        go_enter Tryd.func82, Tryd.ntmps82
        go_wp2_with fail
        refine (rnext_any b q _ HR.out HN.out.1 HN.out.2.1 HN.out.2.2).mono ?_
        rintro e w2 ⟨rfl, rfl⟩
        rw [HV.out.1, HV.out.2, HX.out]
        go_wp2_with fail
        go_ret
        exact ⟨by rw [HE.out]; rfl, by rw [HQ.out]; exact (HR.out.ac true).ep n, (Chg.set _ _ _ _).trans (Chg.set _ _ _ _)⟩
      · have HE : Hid (q.clE n = 3) := by show _ = _; unfold Ro.clE; rw [ha, if_neg (by simp), if_neg h2, if_neg hn]
        have HQ : Hid (q.claim n = q) := by show _ = _; unfold Ro.claim; rw [HE.out]; rfl
        clear ha h2
        generalize hx : q.nx = x at *
        have HX : Hid (q.nx = x) := hx
        clear hx
        have hn' : ¬ x = n := fun h => hn h.symm
        go_enter Tryd.func82, Tryd.ntmps82
        go_wp2_with fail
        refine (rnext_any b q _ HR.out HN.out.1 HN.out.2.1 HN.out.2.2).mono ?_
        rintro e w2 ⟨rfl, rfl⟩
        rw [HV.out.1, HV.out.2]
        go_wp2_with fail
        go_ret
        exact ⟨by rw [HE.out]; rfl, by rw [HQ.out]; exact HR.out, Chg.refl _ _⟩
  · rw [ha] at c3
    have HE : Hid (q.clE n = 11) := by show _ = _; unfold Ro.clE; rw [ha, if_pos rfl]
    have HQ : Hid (q.claim n = q) := by show _ = _; unfold Ro.claim; rw [HE.out]; rfl
    clear ha
    go_enter Tryd.func82, Tryd.ntmps82
    go_wp2_with fail
    go_ret
    exact ⟨by rw [HE.out]; rfl, by rw [HQ.out]; exact HR.out, Chg.refl _ _⟩
set_option maxRecDepth 100000 in
set_option maxHeartbeats 2000000 in
theorem rhear_any (b : Nat) (q : Ro) (n : Int) (w : World) (R : RRol w b q) :
    Calls Tryd.prog 83 #[.pointer (some ⟨b, 0, none⟩), .int .i64 n] w fun e w' => e = .returned (.bool (q.rfalls n)) ∧ RRol w' b (q.rhear n) ∧ Chg b w w' := by
  have HR : Hid (RRol w b q) := R
  have c1 := R.c1
  have c2 := R.c2
  have c3 := R.c3
  have f1 := R.fr 1
  have f2 := R.fr 2
  have f3 := R.fr 3
  clear R
  have HNO : Hid ((isEpR n = false ∨ n < q.ep) → q.rhear n = q ∧ q.rfalls n = false) := fun h => Ro.rhear_no h
  have HIS : Hid (0 ≤ n ∧ n ≤ 1073741824 → isEpR n = true) := fun h => isEpR_iff.2 h
  by_cases hn : n < 0
  · have HH := HNO.out (Or.inl (by unfold isEpR; rw [decide_eq_false (by omega)]; rfl))
    have HQ : Hid (q.rhear n = q ∧ q.rfalls n = false) := HH
    clear HH HNO HIS
    go_enter Tryd.func83, Tryd.ntmps83
    go_wp2_with fail
    go_ret
    exact ⟨by rw [HQ.out.2]; rfl, by rw [HQ.out.1]; exact HR.out, Chg.refl _ _⟩
  · by_cases hm : 1073741824 < n
    · have HH := HNO.out (Or.inl (by unfold isEpR; rw [decide_eq_false (show ¬ n ≤ 1073741824 by omega)]; simp))
      have HQ : Hid (q.rhear n = q ∧ q.rfalls n = false) := HH
      clear HH HNO HIS
      go_enter Tryd.func83, Tryd.ntmps83
      go_wp2_with fail
      go_ret
      exact ⟨by rw [HQ.out.2]; rfl, by rw [HQ.out.1]; exact HR.out, Chg.refl _ _⟩
    · have hp := HIS.out (by omega)
      by_cases hl : n < q.ep
      · have HQ : Hid (q.rhear n = q ∧ q.rfalls n = false) := HNO.out (Or.inr hl)
        clear HNO HIS hp
        have hne : (n == q.ep) = false := beq_eq_false_iff_ne.2 (by omega)
        have hg : ¬ q.ep < n := by omega
        cases ha : q.ac
        all_goals
          rw [ha] at c3
          clear ha
          go_enter Tryd.func83, Tryd.ntmps83
          go_wp2_with fail
          go_ret
          exact ⟨by rw [HQ.out.2]; rfl, by rw [HQ.out.1]; exact HR.out, Chg.refl _ _⟩
      · by_cases hg : q.ep < n
        · have HQ : Hid (q.rhear n = ⟨q.nd, n, 0, false⟩ ∧ q.rfalls n = q.ac) := Ro.rhear_gt hp hg
          clear HNO HIS hp
          have d1 := World.cell?_setCell_same w ⟨b, 1, none⟩ (.int .i64 n) c1
          have d3 := World.cell?_setCell_same (w.setCell ⟨b, 1, none⟩ (.int .i64 n)) ⟨b, 3, none⟩ (.bool false) ((World.cell?_setCell_other _ _ _ _ (by simp)).trans c3)
          go_enter Tryd.func83, Tryd.ntmps83
          go_wp2_with fail
          go_ret
          exact ⟨by rw [HQ.out.2]; rfl, by rw [HQ.out.1]; exact ((HR.out.ep n).ac false).si 0, ((Chg.set _ _ _ _).trans (Chg.set _ _ _ _)).trans (Chg.set _ _ _ _)⟩
        · obtain rfl : n = q.ep := by omega
          have HQ : Hid (q.rhear q.ep = (if q.ac = false then ⟨q.nd, q.ep, 0, false⟩ else q) ∧ q.rfalls q.ep = false) := Ro.rhear_eq hp
          clear HNO HIS hp
          generalize hx : q.ep = x at *
          have HX : Hid (q.ep = x) := hx
          clear hx
          cases ha : q.ac
          · rw [ha] at c3
            have HA : Hid (q.ac = false) := ha
            clear ha
            go_enter Tryd.func83, Tryd.ntmps83
            go_wp2_with fail
            go_ret
            refine ⟨by rw [HQ.out.2]; rfl, ?_, Chg.set _ _ _ _⟩
            rw [HQ.out.1, if_pos HA.out]
            have := HR.out.si 0
            rw [HX.out, HA.out] at this
            exact this
          · rw [ha] at c3
            have HA : Hid (¬ q.ac = false) := by show ¬ _; rw [ha]; simp
            clear ha
            go_enter Tryd.func83, Tryd.ntmps83
            go_wp2_with fail
            go_ret
            exact ⟨by rw [HQ.out.2]; rfl, by rw [HQ.out.1, if_neg HA.out]; exact HR.out, Chg.refl _ _⟩
/-- what a law has: both roles, all else as it was in w0. -/
structure Two (w0 w : World) (b m : Nat) (r q : Ro) : Prop where
  y : Rol w b r
  z : RRol w m q
  ne : b ≠ m
  hb : w0.heap.size ≤ b
  hm : w0.heap.size ≤ m
  bl : Below w0.heap.size w0 w
theorem Two.below {w0 w w' : World} {b m : Nat} {r q : Ro} (h : Two w0 w b m r q) (k : Below w.heap.size w w') : Two w0 w' b m r q := ⟨h.y.below k, h.z.below k, h.ne, h.hb, h.hm, t2 h.bl k⟩
theorem Two.one {w0 w w' : World} {b m : Nat} {r q r' : Ro} (h : Two w0 w b m r q) (a : Rol w' b r') (k : Chg b w w') : Two w0 w' b m r' q := ⟨a, h.z.chg k (fun e => h.ne e.symm), h.ne, h.hb, h.hm, Chg.below h.bl k h.hb⟩
theorem Two.two {w0 w w' : World} {b m : Nat} {r q q' : Ro} (h : Two w0 w b m r q) (a : RRol w' m q') (k : Chg m w w') : Two w0 w' b m r q' := ⟨h.y.chg k h.ne, a, h.ne, h.hb, h.hm, Chg.below h.bl k h.hm⟩
theorem tick_two {w0 w : World} {b m : Nat} {r q : Ro} (h : Two w0 w b m r q) (k : r.Ok) :
    Calls Tryd.prog 79 #[.pointer (some ⟨b, 0, none⟩)] w fun e w' => e = .returned (.bool r.rings) ∧ Two w0 w' b m r.tick q := by
  refine (tick_any b r w h.y k).mono ?_
  rintro e w' ⟨rfl, a1, a2⟩
  exact ⟨rfl, h.one a1 a2⟩
theorem rtick_two {w0 w : World} {b m : Nat} {r q : Ro} (h : Two w0 w b m r q) (h0 : 0 ≤ q.si) (h1 : q.si ≤ 1000) :
    Calls Tryd.prog 80 #[.pointer (some ⟨m, 0, none⟩)] w fun e w' => e = .returned (.bool q.rrings) ∧ Two w0 w' b m r q.rtick := by
  refine (rtick_any m q w h.z h0 h1).mono ?_
  rintro e w' ⟨rfl, a1, a2⟩
  exact ⟨rfl, h.two a1 a2⟩
theorem hear_two {w0 w : World} {b m : Nat} {r q : Ro} (h : Two w0 w b m r q) (n : Int) :
    Calls Tryd.prog 77 #[.pointer (some ⟨b, 0, none⟩), .int .i64 n] w fun e w' => e = .returned (.bool (r.falls n)) ∧ Two w0 w' b m (r.hear n) q := by
  refine (hear_any b r n w h.y).mono ?_
  rintro e w' ⟨rfl, a1, a2⟩
  exact ⟨rfl, h.one a1 a2⟩
theorem rhear_two {w0 w : World} {b m : Nat} {r q : Ro} (h : Two w0 w b m r q) (n : Int) :
    Calls Tryd.prog 83 #[.pointer (some ⟨m, 0, none⟩), .int .i64 n] w fun e w' => e = .returned (.bool (q.rfalls n)) ∧ Two w0 w' b m r (q.rhear n) := by
  refine (rhear_any m q n w h.z).mono ?_
  rintro e w' ⟨rfl, a1, a2⟩
  exact ⟨rfl, h.two a1 a2⟩
theorem claim_two {w0 w : World} {b m : Nat} {r q : Ro} (h : Two w0 w b m r q) (k : r.Ok) (n : Int) (s : Nat → Addr) (S : Se3 w0 s) :
    Calls Tryd.prog 76 #[.pointer (some ⟨b, 0, none⟩), .int .i64 n] w fun e w' => e = .returned (terr s (r.clE n)) ∧ Two w0 w' b m (r.claim n) q := by
  refine (claim_any b r n s w h.y k (S.below h.bl)).mono ?_
  rintro e w' ⟨rfl, a1, a2⟩
  exact ⟨rfl, h.one a1 a2⟩
theorem rclaim_two {w0 w : World} {b m : Nat} {r q : Ro} (h : Two w0 w b m r q) (n : Int) (hn : q.nd = 0 ∨ q.nd = 1) (h0 : 0 ≤ q.ep) (h1 : q.ep ≤ 1073741824) :
    Calls Tryd.prog 82 #[.pointer (some ⟨m, 0, none⟩), .int .i64 n] w fun e w' => e = .returned (.int .i64 (q.clE n : Int)) ∧ Two w0 w' b m r (q.claim n) := by
  refine (rclaim_any m q n w h.z hn h0 h1).mono ?_
  rintro e w' ⟨rfl, a1, a2⟩
  exact ⟨rfl, h.two a1 a2⟩
theorem next_two {w0 w : World} {b m : Nat} {r q : Ro} (h : Two w0 w b m r q) (k : r.Ok) (s : Nat → Addr) (S : Se3 w0 s) :
    Calls Tryd.prog 74 #[.pointer (some ⟨b, 0, none⟩)] w fun e w' => e = .returned (.tuple #[.int .i64 r.nxV, terr s r.nxE]) ∧ Two w0 w' b m r q := by
  refine (next_any b r s w h.y k (S.below h.bl)).mono ?_
  rintro e w' ⟨rfl, a1⟩
  exact ⟨rfl, h.below a1⟩
end Go.Proofs.YtneoflcfhdjcoabDoor
