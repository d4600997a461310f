/-
  A role in memory; package role's isEpoch, New, Tick, Next, Claim, Hear, Active, Epoch.
-/
import Derived.Test.YthmnmdikpccenacDoorRoM
import Derived.Test.YthmnmdikpccenacDoorGeP
namespace Go.Proofs.YthmnmdikpccenacDoor
open Go.RowKit

/-- three sentinels: ErrBound, ErrShape, ErrHeld. -/
structure Se3 (w : World) (s : Nat → Addr) : Prop where
  c1 : w.cell? ⟨0, 0, none⟩ = some (.iface 161 (.pointer (some (s 1))))
  c2 : w.cell? ⟨1, 0, none⟩ = some (.iface 161 (.pointer (some (s 2))))
  c10 : w.cell? ⟨6, 0, none⟩ = some (.iface 161 (.pointer (some (s 10))))
theorem Se3.below {w w' : World} {s : Nat → Addr} (S : Se3 w s) (hb : Below w.heap.size w w') : Se3 w' s := ⟨tk hb S.c1, tk hb S.c2, tk hb S.c10⟩
/-- a role in memory. -/
def Rol (w : World) (b : Nat) (r : Ro) : Prop := w.heap[b]? = some (.cells #[.int .i64 r.nd, .int .i64 r.ep, .int .i64 r.si, .bool r.ac] 85 (0, 0))
theorem Rol.lt {w : World} {b : Nat} {r : Ro} (h : Rol w b r) : b < w.heap.size := by
  rcases Nat.lt_or_ge b w.heap.size with h1 | h1
  · exact h1
  · rw [Rol, Array.getElem?_eq_none h1] at h; cases h
theorem Rol.below {w w' : World} {b : Nat} {r : Ro} (h : Rol w b r) (hb : Below w.heap.size w w') : Rol w' b r := by unfold Rol; rw [hb.block b h.lt]; exact h
theorem Rol.chg {w w' : World} {b d : Nat} {r : Ro} (h : Rol w b r) (hb : Chg d w w') (hn : b ≠ d) : Rol w' b r := by unfold Rol; rw [hb.block b h.lt hn]; exact h
theorem Rol.c0 {w : World} {b : Nat} {r : Ro} (h : Rol w b r) : w.cell? ⟨b, 0, none⟩ = some (.int .i64 r.nd) := (cell_of_row w b _ _ _ _ h).trans rfl
theorem Rol.c1 {w : World} {b : Nat} {r : Ro} (h : Rol w b r) : w.cell? ⟨b, 1, none⟩ = some (.int .i64 r.ep) := (cell_of_row w b _ _ _ _ h).trans rfl
theorem Rol.c2 {w : World} {b : Nat} {r : Ro} (h : Rol w b r) : w.cell? ⟨b, 2, none⟩ = some (.int .i64 r.si) := (cell_of_row w b _ _ _ _ h).trans rfl
theorem Rol.c3 {w : World} {b : Nat} {r : Ro} (h : Rol w b r) : w.cell? ⟨b, 3, none⟩ = some (.bool r.ac) := (cell_of_row w b _ _ _ _ h).trans rfl
theorem Rol.fr {w : World} {b : Nat} {r : Ro} (h : Rol w b r) (i : Nat) : w.frozen? ⟨b, i, none⟩ = false := frozen_of_row w b i _ _ h
theorem Rol.ep {w : World} {b : Nat} {r : Ro} (h : Rol w b r) (x : Int) : Rol (w.setCell ⟨b, 1, none⟩ (.int .i64 x)) b ⟨r.nd, x, r.si, r.ac⟩ := by unfold Rol; rw [heap_setCell_same w b _ _ _ _ h]; rfl
theorem Rol.si {w : World} {b : Nat} {r : Ro} (h : Rol w b r) (x : Int) : Rol (w.setCell ⟨b, 2, none⟩ (.int .i64 x)) b ⟨r.nd, r.ep, x, r.ac⟩ := by unfold Rol; rw [heap_setCell_same w b _ _ _ _ h]; rfl
theorem Rol.ac {w : World} {b : Nat} {r : Ro} (h : Rol w b r) (x : Bool) : Rol (w.setCell ⟨b, 3, none⟩ (.bool x)) b ⟨r.nd, r.ep, r.si, x⟩ := by unfold Rol; rw [heap_setCell_same w b _ _ _ _ h]; rfl

theorem isEpochR_any (n : Int) (w : World) : Calls Tryd.prog 35 #[.int .i64 n] w fun e w' => e = .returned (.bool (isEpR n)) ∧ w' = w := by
  by_cases h : 0 ≤ n
  · have HE : Hid (isEpR n = decide (n ≤ 1073741824)) := by unfold isEpR; rw [decide_eq_true h]; exact rfl
    go_enter Tryd.func35, Tryd.ntmps35
    go_wp2_with fail
    go_ret
    exact ⟨by rw [HE.out]; rfl, rfl⟩
  · have HE : Hid (isEpR n = false) := by unfold isEpR; rw [decide_eq_false h]; exact rfl
    go_enter Tryd.func35, Tryd.ntmps35
    go_wp2_with fail
    go_ret
    exact ⟨by rw [HE.out]; rfl, rfl⟩
theorem active_any (b : Nat) (r : Ro) (w : World) (R : Rol w b r) : Calls Tryd.prog 13 #[.pointer (some ⟨b, 0, none⟩)] w fun e w' => e = .returned (.bool r.ac) ∧ w' = w := by
  have c3 := R.c3
  clear R
  go_enter Tryd.func13, Tryd.ntmps13
  go_wp2_with fail
  go_ret
  exact ⟨rfl, rfl⟩
theorem epochR_any (b : Nat) (r : Ro) (w : World) (R : Rol w b r) : Calls Tryd.prog 14 #[.pointer (some ⟨b, 0, none⟩)] w fun e w' => e = .returned (.int .i64 r.ep) ∧ w' = w := by
  have c1 := R.c1
  clear R
  go_enter Tryd.func14, Tryd.ntmps14
  go_wp2_with fail
  go_ret
  exact ⟨rfl, rfl⟩
set_option maxRecDepth 100000 in
set_option maxHeartbeats 2000000 in
theorem tick_any (b : Nat) (r : Ro) (w : World) (R : Rol w b r) (K : r.Ok) : Calls Tryd.prog 28 #[.pointer (some ⟨b, 0, none⟩)] w fun e w' => e = .returned (.bool r.rings) ∧ Rol w' b r.tick ∧ Chg b w w' := by
  obtain ⟨nd, ep, si, ac⟩ := r
  have HR : Hid (Rol w b ⟨nd, ep, si, ac⟩) := R
  have k0 : 0 ≤ si := K.s0
  have k1 : si ≤ 10 := K.s1
  have c2 := R.c2
  have c3 := R.c3
  have f2 := R.fr 2
  clear R K
  simp only at c2 c3
  cases ac
  · by_cases h9 : si ≤ 9
    · have HG : Hid ((⟨nd, ep, si, false⟩ : Ro).rings = decide (9 < si + 1)) := by show (if false = true then false else decide (9 < (if si ≤ 9 then si + 1 else si))) = _; rw [if_pos h9]; rfl
      have HQ : Hid ((⟨nd, ep, si, false⟩ : Ro).tick = ⟨nd, ep, si + 1, false⟩) := by show (if false = true then _ else (⟨nd, ep, if si ≤ 9 then si + 1 else si, false⟩ : Ro)) = _; rw [if_pos h9]; rfl
      have hw : IntKind.i64.wrap (si + 1) = si + 1 := by rw [IntKind.wrap_i64]; omega
      have hc := World.cell?_setCell_same w ⟨b, 2, none⟩ (.int .i64 (si + 1)) c2
      go_enter Tryd.func28, Tryd.ntmps28
      go_wp2_with fail
      go_ret
      exact ⟨by rw [HG.out]; rfl, by rw [HQ.out]; exact HR.out.si _, Chg.set _ _ _ _⟩
    · have HG : Hid ((⟨nd, ep, si, false⟩ : Ro).rings = true) := by show (if false = true then false else decide (9 < (if si ≤ 9 then si + 1 else si))) = _; rw [if_neg h9]; simp; omega
      have HQ : Hid ((⟨nd, ep, si, false⟩ : Ro).tick = ⟨nd, ep, si, false⟩) := by show (if false = true then _ else (⟨nd, ep, if si ≤ 9 then si + 1 else si, false⟩ : Ro)) = _; rw [if_neg h9]; rfl
      go_enter Tryd.func28, Tryd.ntmps28
      go_wp2_with fail
      go_ret
      exact ⟨by rw [HG.out]; rfl, by rw [HQ.out]; exact HR.out, Chg.refl _ _⟩
  · go_enter Tryd.func28, Tryd.ntmps28
    go_wp2_with fail
    go_ret
    exact ⟨rfl, HR.out, Chg.refl _ _⟩
theorem newR_bad (nd ep : Int) (s : Nat → Addr) (w : World) (S : Se3 w s) (h : (nd ≠ 0 ∧ nd ≠ 1) ∨ isEpR ep = false) :
    Calls Tryd.prog 20 #[.int .i64 nd, .int .i64 ep] w fun e w' => e = .returned (.tuple #[.pointer none, terr s 2]) ∧ Below w.heap.size w w' := by
  have c1 := S.c1
  clear S
  by_cases hn : nd ≠ 0 ∧ nd ≠ 1
  · obtain ⟨h0, h1⟩ := hn
    clear h
    go_enter Tryd.func20, Tryd.ntmps20
    go_wp2_with fail
    go_region
    go_wp2_with fail
    go_ret2
    exact ⟨rfl, (Below.refl _ _).drew⟩
  · have he : isEpR ep = false := h.resolve_left hn
    have HP : Hid (isEpR ep = false) := he
    have hnd : nd = 0 ∨ nd = 1 := by omega
    clear h hn he
    rcases hnd with rfl | rfl
    all_goals
      go_enter Tryd.func20, Tryd.ntmps20
      go_wp2_with fail
      refine (isEpochR_any ep w).mono ?_
      rintro e w' ⟨rfl, rfl⟩
      rw [HP.out]
      go_wp2_with fail
      go_region
      go_wp2_with fail
      go_ret2
      exact ⟨rfl, (Below.refl _ _).drew⟩
theorem newR_ok (nd ep : Int) (w : World) (h : nd = 0 ∨ nd = 1) (h0 : 0 ≤ ep) (h1 : ep ≤ 1073741824) :
    Calls Tryd.prog 20 #[.int .i64 nd, .int .i64 ep] w fun e w' => (e = .returned (.tuple #[.pointer (some ⟨w.heap.size, 0, none⟩), .nilIface]) ∧ Rol w' w.heap.size (Ro.new nd ep)) ∧ Below w.heap.size w w' := by
  have HP : Hid (isEpR ep = true) := isEpR_iff.2 ⟨h0, h1⟩
  clear h0 h1
  rcases h with rfl | rfl
  all_goals
    go_enter Tryd.func20, Tryd.ntmps20
    go_wp2_with fail
    refine (isEpochR_any ep w).mono ?_
    rintro e w' ⟨rfl, rfl⟩
    rw [HP.out]
    go_wp2_with fail
    go_ret2
    exact ⟨⟨rfl, heap_alloc_new _ _⟩, aB _ _⟩
theorem tmod2 {n : Int} (h : 0 ≤ n) : Int.tmod n 2 = n % 2 := Int.tmod_eq_emod_of_nonneg h
set_option maxRecDepth 100000 in
set_option maxHeartbeats 2000000 in
theorem next_any (b : Nat) (r : Ro) (s : Nat → Addr) (w : World) (R : Rol w b r) (K : r.Ok) (S : Se3 w s) :
    Calls Tryd.prog 42 #[.pointer (some ⟨b, 0, none⟩)] w fun e w' => e = .returned (.tuple #[.int .i64 r.nxV, terr s r.nxE]) ∧ Below w.heap.size w w' := by
  obtain ⟨nd, ep, si, ac⟩ := r
  have k0 : 0 ≤ ep := K.e0
  have k1 : ep ≤ 1073741824 := K.e1
  have g0 : w.cell? ⟨b, 0, none⟩ = some (.int .i64 nd) := R.c0
  have g1 : w.cell? ⟨b, 1, none⟩ = some (.int .i64 ep) := R.c1
  have c1 := S.c1
  clear R K S
  have hw : IntKind.i64.wrap (ep + 1) = ep + 1 := by rw [IntKind.wrap_i64]; omega
  have hw2 : IntKind.i64.wrap (ep + 1 + 1) = ep + 2 := by rw [IntKind.wrap_i64]; omega
  have hm := tmod2 (n := ep + 1) (by omega)
  have HP : ∀ x : Int, Hid ((⟨nd, ep, si, ac⟩ : Ro).nx = x) → 0 ≤ x → Hid (isEpR x = !decide (1073741824 < x)) := fun x _ h => by
    show (decide (0 ≤ x) && decide (x ≤ 1073741824)) = _
    rw [decide_eq_true h, Bool.true_and]
    by_cases h2 : 1073741824 < x
    · rw [decide_eq_true h2, decide_eq_false (by omega)]; rfl
    · rw [decide_eq_false h2, decide_eq_true (by omega)]; rfl
  by_cases hp : (ep + 1) % 2 = nd
  · have HX : Hid ((⟨nd, ep, si, ac⟩ : Ro).nx = ep + 1) := by show (if _ then _ else _) = _; rw [if_pos hp]
    have HQ := HP _ HX (by omega)
    clear HP
    have hne : ((ep + 1) % 2 == nd) = true := beq_iff_eq.2 hp
    by_cases h2 : 1073741824 < ep + 1
    · have HV : Hid ((⟨nd, ep, si, ac⟩ : Ro).nxV = 0 ∧ (⟨nd, ep, si, ac⟩ : Ro).nxE = 2) := by show _ ∧ _; unfold Ro.nxV Ro.nxE; rw [HX.out, if_pos h2, if_pos h2]; exact ⟨rfl, rfl⟩
      rw [decide_eq_true h2] at HQ
      go_enter Tryd.func42, Tryd.ntmps42
      go_wp2_with fail
      refine (isEpochR_any _ w).mono ?_
      rintro e w' ⟨rfl, rfl⟩
      rw [HQ.out]
      go_wp2_with fail
      go_region
      go_wp2_with fail
      go_ret2
      exact ⟨by rw [HV.out.1, HV.out.2]; rfl, (Below.refl _ _).drew⟩
    · have HV : Hid ((⟨nd, ep, si, ac⟩ : Ro).nxV = ep + 1 ∧ (⟨nd, ep, si, ac⟩ : Ro).nxE = 0) := by show _ ∧ _; unfold Ro.nxV Ro.nxE; rw [HX.out, if_neg h2, if_neg h2]; exact ⟨rfl, rfl⟩
      rw [decide_eq_false h2] at HQ
      go_enter Tryd.func42, Tryd.ntmps42
      go_wp2_with fail
      refine (isEpochR_any _ w).mono ?_
      rintro e w' ⟨rfl, rfl⟩
      rw [HQ.out]
      go_wp2_with fail
      go_ret2
      exact ⟨by rw [HV.out.1, HV.out.2]; rfl, Below.refl _ _⟩
  · have HX : Hid ((⟨nd, ep, si, ac⟩ : Ro).nx = ep + 2) := by show (if _ then _ else _) = _; rw [if_neg hp]
    have HQ := HP _ HX (by omega)
    clear HP
    have hne : ((ep + 1) % 2 == nd) = false := beq_eq_false_iff_ne.2 hp
    by_cases h2 : 1073741824 < ep + 2
    · have HV : Hid ((⟨nd, ep, si, ac⟩ : Ro).nxV = 0 ∧ (⟨nd, ep, si, ac⟩ : Ro).nxE = 2) := by show _ ∧ _; unfold Ro.nxV Ro.nxE; rw [HX.out, if_pos h2, if_pos h2]; exact ⟨rfl, rfl⟩
      rw [decide_eq_true h2] at HQ
      go_enter Tryd.func42, Tryd.ntmps42
      go_wp2_with fail
      refine (isEpochR_any _ w).mono ?_
      rintro e w' ⟨rfl, rfl⟩
      rw [HQ.out]
      go_wp2_with fail
      go_region
      go_wp2_with fail
      go_ret2
      exact ⟨by rw [HV.out.1, HV.out.2]; rfl, (Below.refl _ _).drew⟩
    · have HV : Hid ((⟨nd, ep, si, ac⟩ : Ro).nxV = ep + 2 ∧ (⟨nd, ep, si, ac⟩ : Ro).nxE = 0) := by show _ ∧ _; unfold Ro.nxV Ro.nxE; rw [HX.out, if_neg h2, if_neg h2]; exact ⟨rfl, rfl⟩
      rw [decide_eq_false h2] at HQ
      go_enter Tryd.func42, Tryd.ntmps42
      go_wp2_with fail
      refine (isEpochR_any _ w).mono ?_
      rintro e w' ⟨rfl, rfl⟩
      rw [HQ.out]
      go_wp2_with fail
      go_ret2
      exact ⟨by rw [HV.out.1, HV.out.2]; rfl, Below.refl _ _⟩
end Go.Proofs.YthmnmdikpccenacDoor
