/-
  Texts in one: RoR RoQ.
-/
import Derived.Test.YtifjoboaolpejaaGreatDoorKa
namespace Go.Proofs.YtifjoboaolpejaaGreatDoor
open Go.RowKit

def Ro.rtick (q : Ro) : Ro := if q.ac then q else ⟨q.nd, q.ep, q.si + 1, false⟩
def Ro.rrings (q : Ro) : Bool := if q.ac then false else decide (9 < q.si + 1)
def Ro.rhear (q : Ro) (n : Int) : Ro := if isEpR n then (if q.ep < n then ⟨q.nd, n, 0, false⟩ else if q.ac = false ∧ n = q.ep then ⟨q.nd, q.ep, 0, false⟩ else q) else q
def Ro.rfalls (q : Ro) (n : Int) : Bool := if isEpR n then (if q.ep < n then q.ac else false) else false
/-- both are the same; the document's counts all ticks of silence. -/
structure Sam (r q : Ro) (i : Int) : Prop where
  k : r.Ok
  nd : q.nd = r.nd
  ep : q.ep = r.ep
  ac : q.ac = r.ac
  s0 : 0 ≤ q.si
  s1 : q.si ≤ i
  si : r.ac = false → r.si = if q.si ≤ 9 then q.si else 10
theorem Sam.new {nd ep : Int} (h : nd = 0 ∨ nd = 1) (h0 : 0 ≤ ep) (h1 : ep ≤ 1073741824) : Sam (Ro.new nd ep) ⟨nd, ep, 0, false⟩ 0 := ⟨.new h h0 h1, rfl, rfl, rfl, Int.le_refl _, Int.le_refl _, fun _ => rfl⟩
theorem Sam.mono {r q : Ro} {i j : Int} (h : Sam r q i) (hij : i ≤ j) : Sam r q j := ⟨h.k, h.nd, h.ep, h.ac, h.s0, by have := h.s1; omega, h.si⟩
theorem Sam.tick {r q : Ro} {i : Int} (h : Sam r q i) : Sam r.tick q.rtick (i + 1) ∧ q.rrings = r.rings := by
  have hk := h.k.tick
  obtain ⟨k, hnd, hep, hac, s0, s1, hsi⟩ := h
  obtain ⟨nd, ep, si, ac⟩ := r
  obtain ⟨nd', ep', si', ac'⟩ := q
  simp only at hnd hep hac s0 s1 hsi
  subst hnd hep hac
  cases ac'
  · have hsi := hsi rfl
    have e : (if si ≤ 9 then si + 1 else si) = if si' + 1 ≤ 9 then si' + 1 else 10 := by
      rw [hsi]
      by_cases h9 : si' ≤ 9
      · rw [if_pos h9, if_pos h9]
        by_cases h8 : si' + 1 ≤ 9
        · rw [if_pos h8]
        · rw [if_neg h8]; omega
      · rw [if_neg h9, if_neg (by omega), if_neg (by omega)]
    refine ⟨⟨hk, rfl, rfl, rfl, by show 0 ≤ si' + 1; omega, by show si' + 1 ≤ i + 1; omega, fun _ => e⟩, ?_⟩
    show decide (9 < si' + 1) = decide (9 < (if si ≤ 9 then si + 1 else si))
    rw [e]
    by_cases h8 : si' + 1 ≤ 9
    · rw [if_pos h8]
    · rw [if_neg h8]
      exact (decide_eq_true (by omega)).trans (decide_eq_true (by omega)).symm
  · exact ⟨⟨hk, rfl, rfl, rfl, s0, by show si' ≤ i + 1; omega, fun h => by cases h⟩, rfl⟩
theorem Sam.nx {r q : Ro} {i : Int} (h : Sam r q i) : q.nx = r.nx := by unfold Ro.nx; rw [h.nd, h.ep]
theorem Sam.clE {r q : Ro} {i : Int} (h : Sam r q i) (n : Int) : q.clE n = r.clE n := by unfold Ro.clE; rw [h.ac, h.nx]
theorem Sam.claim {r q : Ro} {i : Int} (h : Sam r q i) (n : Int) : Sam (r.claim n) (q.claim n) i := by
  have hk := h.k.claim n
  have e := h.clE n
  revert hk
  unfold Ro.claim
  rw [e]
  intro hk
  by_cases hc : r.clE n = 0
  · rw [if_pos hc] at hk
    rw [if_pos hc, if_pos hc]
    exact ⟨hk, h.nd, rfl, rfl, h.s0, h.s1, fun h => by cases h⟩
  · rw [if_neg hc, if_neg hc]
    exact h
theorem Ro.hear_no {r : Ro} {n : Int} (h : isEpR n = false ∨ n < r.ep) : r.hear n = r ∧ r.falls n = false := by
  have hh : r.heard n = false := by
    unfold Ro.heard
    rcases h with h | h
    · rw [h]; rfl
    · rw [decide_eq_true h]; simp
  unfold Ro.hear Ro.falls
  rw [hh]
  exact ⟨rfl, rfl⟩
theorem Ro.hear_gt {r : Ro} {n : Int} (h : isEpR n = true) (hl : r.ep < n) : r.hear n = ⟨r.nd, n, 0, false⟩ ∧ r.falls n = r.ac := by
  have hh : r.heard n = true := by
    unfold Ro.heard
    rw [h, decide_eq_false (by omega)]; rfl
  unfold Ro.hear Ro.falls
  rw [hh, decide_eq_true hl]
  simp
theorem Ro.hear_eq {r : Ro} (h : isEpR r.ep = true) : r.hear r.ep = ⟨r.nd, r.ep, 0, r.ac⟩ ∧ r.falls r.ep = false := by
  have hh : r.heard r.ep = true := by
    unfold Ro.heard
    rw [h, decide_eq_false (by omega)]; rfl
  unfold Ro.hear Ro.falls
  rw [hh, decide_eq_false (by omega)]
  simp
theorem Ro.rhear_no {r : Ro} {n : Int} (h : isEpR n = false ∨ n < r.ep) : r.rhear n = r ∧ r.rfalls n = false := by
  unfold Ro.rhear Ro.rfalls
  cases hp : isEpR n
  · exact ⟨rfl, rfl⟩
  · have h : n < r.ep := h.resolve_left (by rw [hp]; simp)
    rw [if_pos rfl, if_neg (by omega), if_neg (by omega), if_pos rfl, if_neg (by omega)]
    exact ⟨rfl, rfl⟩
theorem Ro.rhear_gt {r : Ro} {n : Int} (h : isEpR n = true) (hl : r.ep < n) : r.rhear n = ⟨r.nd, n, 0, false⟩ ∧ r.rfalls n = r.ac := by
  unfold Ro.rhear Ro.rfalls
  rw [h, if_pos rfl, if_pos hl, if_pos rfl, if_pos hl]
  exact ⟨rfl, rfl⟩
theorem Ro.rhear_eq {r : Ro} (h : isEpR r.ep = true) : r.rhear r.ep = (if r.ac = false then ⟨r.nd, r.ep, 0, false⟩ else r) ∧ r.rfalls r.ep = false := by
  unfold Ro.rhear Ro.rfalls
  have hx : ¬ r.ep < r.ep := by omega
  rw [h, if_pos rfl, if_neg hx, if_pos rfl, if_neg hx]
  refine ⟨?_, rfl⟩
  by_cases ha : r.ac = false
  · rw [if_pos ⟨ha, rfl⟩, if_pos ha]
  · rw [if_neg (fun x => ha x.1), if_neg ha]
theorem Sam.hear {r q : Ro} {i : Int} (h : Sam r q i) (n : Int) : Sam (r.hear n) (q.rhear n) i ∧ q.rfalls n = r.falls n := by
  have hk := h.k.hear n
  have hi : 0 ≤ i := by have := h.s0; have := h.s1; omega
  have hep := h.ep
  by_cases hno : isEpR n = false ∨ n < r.ep
  · rw [(Ro.hear_no hno).1, (Ro.hear_no hno).2, (Ro.rhear_no (hep ▸ hno)).1, (Ro.rhear_no (hep ▸ hno)).2]
    exact ⟨h, rfl⟩
  · have hp : isEpR n = true := by
      cases hp : isEpR n
      · exact absurd (Or.inl hp) hno
      · rfl
    have hl : ¬ n < r.ep := fun x => hno (Or.inr x)
    by_cases hg : r.ep < n
    · rw [(Ro.hear_gt hp hg).1] at hk
      rw [(Ro.hear_gt hp hg).1, (Ro.hear_gt hp hg).2, (Ro.rhear_gt hp (hep ▸ hg)).1, (Ro.rhear_gt hp (hep ▸ hg)).2]
      exact ⟨⟨hk, h.nd, rfl, rfl, Int.le_refl _, hi, fun _ => rfl⟩, h.ac⟩
    · obtain rfl : n = r.ep := by omega
      have e1 := Ro.hear_eq hp
      have e2 := Ro.rhear_eq (r := q) (by rw [hep]; exact hp)
      rw [hep] at e2
      rw [e1.1] at hk
      rw [e1.1, e1.2, e2.1, e2.2]
      refine ⟨?_, rfl⟩
      by_cases ha : q.ac = false
      · rw [if_pos ha]
        exact ⟨hk, h.nd, rfl, by rw [← h.ac]; exact ha.symm, Int.le_refl _, hi, fun _ => rfl⟩
      · rw [if_neg ha]
        exact ⟨hk, h.nd, h.ep, h.ac, h.s0, h.s1, fun hf => absurd (h.ac.trans hf) ha⟩

/-- the document's role in memory. -/
def RRol (w : World) (b : Nat) (r : Ro) : Prop := w.heap[b]? = some (.cells #[.int .i64 r.nd, .int .i64 r.ep, .int .i64 r.si, .bool r.ac] 97 (0, 0))
theorem RRol.lt {w : World} {b : Nat} {r : Ro} (h : RRol w b r) : b < w.heap.size := by
  rcases Nat.lt_or_ge b w.heap.size with h1 | h1
  · exact h1
  · rw [RRol, Array.getElem?_eq_none h1] at h; cases h
theorem RRol.below {w w' : World} {b : Nat} {r : Ro} (h : RRol w b r) (hb : Below w.heap.size w w') : RRol w' b r := by unfold RRol; rw [hb.block b h.lt]; exact h
theorem RRol.chg {w w' : World} {b d : Nat} {r : Ro} (h : RRol w b r) (hb : Chg d w w') (hn : b ≠ d) : RRol w' b r := by unfold RRol; rw [hb.block b h.lt hn]; exact h
theorem RRol.c0 {w : World} {b : Nat} {r : Ro} (h : RRol w b r) : w.cell? ⟨b, 0, none⟩ = some (.int .i64 r.nd) := (cell_of_row w b _ _ _ _ h).trans rfl
theorem RRol.c1 {w : World} {b : Nat} {r : Ro} (h : RRol w b r) : w.cell? ⟨b, 1, none⟩ = some (.int .i64 r.ep) := (cell_of_row w b _ _ _ _ h).trans rfl
theorem RRol.c2 {w : World} {b : Nat} {r : Ro} (h : RRol w b r) : w.cell? ⟨b, 2, none⟩ = some (.int .i64 r.si) := (cell_of_row w b _ _ _ _ h).trans rfl
theorem RRol.c3 {w : World} {b : Nat} {r : Ro} (h : RRol w b r) : w.cell? ⟨b, 3, none⟩ = some (.bool r.ac) := (cell_of_row w b _ _ _ _ h).trans rfl
theorem RRol.fr {w : World} {b : Nat} {r : Ro} (h : RRol w b r) (i : Nat) : w.frozen? ⟨b, i, none⟩ = false := frozen_of_row w b i _ _ h
theorem RRol.ep {w : World} {b : Nat} {r : Ro} (h : RRol w b r) (x : Int) : RRol (w.setCell ⟨b, 1, none⟩ (.int .i64 x)) b ⟨r.nd, x, r.si, r.ac⟩ := by unfold RRol; rw [heap_setCell_same w b _ _ _ _ h]; rfl
theorem RRol.si {w : World} {b : Nat} {r : Ro} (h : RRol w b r) (x : Int) : RRol (w.setCell ⟨b, 2, none⟩ (.int .i64 x)) b ⟨r.nd, r.ep, x, r.ac⟩ := by unfold RRol; rw [heap_setCell_same w b _ _ _ _ h]; rfl
theorem RRol.ac {w : World} {b : Nat} {r : Ro} (h : RRol w b r) (x : Bool) : RRol (w.setCell ⟨b, 3, none⟩ (.bool x)) b ⟨r.nd, r.ep, r.si, x⟩ := by unfold RRol; rw [heap_setCell_same w b _ _ _ _ h]; rfl
set_option maxRecDepth 100000 in
set_option maxHeartbeats 2000000 in
theorem rtick_any (b : Nat) (q : Ro) (w : World) (R : RRol w b q) (h0 : 0 ≤ q.si) (h1 : q.si ≤ 1000000) : Calls Tryz.prog 90 #[.pointer (some ⟨b, 0, none⟩)] w fun e w' => e = .returned (.bool q.rrings) ∧ RRol w' b q.rtick ∧ Chg b w w' := by
  obtain ⟨nd, ep, si, ac⟩ := q
  have HR : Hid (RRol w b ⟨nd, ep, si, ac⟩) := R
  have c2 : w.cell? ⟨b, 2, none⟩ = some (.int .i64 si) := R.c2
  have c3 : w.cell? ⟨b, 3, none⟩ = some (.bool ac) := R.c3
  have f2 := R.fr 2
  have k0 : 0 ≤ si := h0
  have k1 : si ≤ 1000000 := h1
  clear R h0 h1
  cases ac
  · have hw : IntKind.i64.wrap (si + 1) = si + 1 := by rw [IntKind.wrap_i64]; omega
    have hc := World.cell?_setCell_same w ⟨b, 2, none⟩ (.int .i64 (si + 1)) c2
    go_enter Tryz.func90, Tryz.ntmps90
    go_wp2_with fail
    go_ret
    exact ⟨rfl, HR.out.si _, Chg.set _ _ _ _⟩
  · go_enter Tryz.func90, Tryz.ntmps90
    go_wp2_with fail
    go_ret
    exact ⟨rfl, HR.out, Chg.refl _ _⟩
set_option maxRecDepth 100000 in
set_option maxHeartbeats 2000000 in
theorem rrnext_any (b : Nat) (q : Ro) (w : World) (R : RRol w b q) (hn : q.nd = 0 ∨ q.nd = 1) (h0 : 0 ≤ q.ep) (h1 : q.ep ≤ 1073741824) :
    Calls Tryz.prog 91 #[.pointer (some ⟨b, 0, none⟩)] w fun e w' => e = .returned (.tuple #[.int .i64 q.nxV, .int .i64 (q.nxE : Int)]) ∧ w' = w := by
  obtain ⟨nd, ep, si, ac⟩ := q
  have g0 : w.cell? ⟨b, 0, none⟩ = some (.int .i64 nd) := R.c0
  have g1 : w.cell? ⟨b, 1, none⟩ = some (.int .i64 ep) := R.c1
  have k0 : 0 ≤ ep := h0
  have k1 : ep ≤ 1073741824 := h1
  have kn : nd = 0 ∨ nd = 1 := hn
  clear R h0 h1 hn
  have hw : IntKind.i64.wrap (ep + 1) = ep + 1 := by rw [IntKind.wrap_i64]; omega
  have HX : Hid ((⟨nd, ep, si, ac⟩ : Ro).nx = if (ep + 1) % 2 = nd then ep + 1 else ep + 2) := (rfl : (⟨nd, ep, si, ac⟩ : Ro).nx = if (ep + 1) % 2 = nd then ep + 1 else ep + 2)
  have HV : Hid ((⟨nd, ep, si, ac⟩ : Ro).nxV = (if 1073741824 < (⟨nd, ep, si, ac⟩ : Ro).nx then 0 else (⟨nd, ep, si, ac⟩ : Ro).nx) ∧ (⟨nd, ep, si, ac⟩ : Ro).nxE = (if 1073741824 < (⟨nd, ep, si, ac⟩ : Ro).nx then 2 else 0)) := ⟨rfl, rfl⟩
  generalize (⟨nd, ep, si, ac⟩ : Ro).nx = x at *
  generalize (⟨nd, ep, si, ac⟩ : Ro).nxV = xv at *
  generalize (⟨nd, ep, si, ac⟩ : Ro).nxE = xe at *
  go_enter Tryz.func91, Tryz.ntmps91
  go_wp2_with fail
  go_loopw [4] (fun t wr => wr = w ∧ (t = .int .i64 (ep + 1) ∨ (t = .int .i64 (ep + 2) ∧ (ep + 1) % 2 ≠ nd))) (fun t _ => (ep + 2).toNat - (intOf t).toNat)
  case atStart => exact ⟨rfl, Or.inl rfl⟩
  case round =>
    obtain ⟨rfl, ht⟩ := hrel
    have fin : ∀ y : Int, x = y → Hid ((1073741824 < y → xv = 0 ∧ xe = 2) ∧ (¬ 1073741824 < y → xv = y ∧ xe = 0)) := fun y hy => by
      show _ ∧ _
      have := HV.out
      rw [hy] at this
      constructor
      · intro h; rw [if_pos h, if_pos h] at this; exact this
      · intro h; rw [if_neg h, if_neg h] at this; exact this
    by_cases hp : (ep + 1) % 2 = nd
    · have ht := ht.resolve_right (fun h => h.2 hp)
      subst ht
      have HF := fin (ep + 1) (by rw [HX.out, if_pos hp])
      clear fin HV HX
      have hm := tmod2 (n := ep + 1) (by omega)
      have hne : ((ep + 1) % 2 == nd) = true := beq_iff_eq.2 hp
      by_cases h2 : 1073741824 < ep + 1
      · obtain ⟨rfl, rfl⟩ := HF.out.1 h2
        go_wp2_with fail
        go_ret2
        exact ⟨rfl, rfl⟩
      · obtain ⟨rfl, rfl⟩ := HF.out.2 h2
        go_wp2_with fail
        go_ret2
        exact ⟨rfl, rfl⟩
    · have HF := fin (ep + 2) (by rw [HX.out, if_neg hp])
      clear fin HV HX
      rcases ht with rfl | ⟨rfl, _⟩
      · have hm := tmod2 (n := ep + 1) (by omega)
        have hne : ((ep + 1) % 2 == nd) = false := beq_eq_false_iff_ne.2 hp
        have hw2 : IntKind.i64.wrap (ep + 1 + 1) = ep + 2 := by rw [IntKind.wrap_i64]; omega
        go_wp2_with fail
        exact ⟨⟨by trivial, Or.inr ⟨rfl, hp⟩⟩, by simp [intOf]; omega⟩
      · have hm := tmod2 (n := ep + 2) (by omega)
        have hne : ((ep + 2) % 2 == nd) = true := beq_iff_eq.2 (by omega)
        by_cases h2 : 1073741824 < ep + 2
        · obtain ⟨rfl, rfl⟩ := HF.out.1 h2
          go_wp2_with fail
          go_ret2
          exact ⟨rfl, rfl⟩
        · obtain ⟨rfl, rfl⟩ := HF.out.2 h2
          go_wp2_with fail
          go_ret2
          exact ⟨rfl, rfl⟩
end Go.Proofs.YtifjoboaolpejaaGreatDoor

namespace Go.Proofs.YtifjoboaolpejaaGreatDoor
open Go.RowKit

set_option maxRecDepth 100000 in
set_option maxHeartbeats 2000000 in
theorem rclaim_any (b : Nat) (q : Ro) (n : Int) (w : World) (R : RRol w b q) (hn : q.nd = 0 ∨ q.nd = 1) (h0 : 0 ≤ q.ep) (h1 : q.ep ≤ 1073741824) :
    Calls Tryz.prog 92 #[.pointer (some ⟨b, 0, none⟩), .int .i64 n] w fun e w' => e = .returned (.int .i64 (q.clE n : Int)) ∧ RRol w' b (q.claim n) ∧ Chg b w w' := by
  have HR : Hid (RRol w b q) := R
  have HN : Hid ((q.nd = 0 ∨ q.nd = 1) ∧ 0 ≤ q.ep ∧ q.ep ≤ 1073741824) := ⟨hn, h0, h1⟩
  have c1 := R.c1
  have c3 := R.c3
  have f1 := R.fr 1
  have f3 := R.fr 3
  clear R hn h0 h1
  cases ha : q.ac
  · rw [ha] at c3
    by_cases h2 : 1073741824 < q.nx
    · have HE : Hid (q.clE n = 2) := by show _ = _; unfold Ro.clE; rw [ha, if_neg (by simp), if_pos h2]
      have HQ : Hid (q.claim n = q) := by show _ = _; unfold Ro.claim; rw [HE.out]; rfl
      have HV : Hid (q.nxV = 0 ∧ q.nxE = 2) := by show _ ∧ _; unfold Ro.nxV Ro.nxE; rw [if_pos h2, if_pos h2]; exact ⟨rfl, rfl⟩
      clear ha h2
      go_enter Tryz.func92, Tryz.ntmps92
      go_wp2_with fail
      refine (rrnext_any b q _ HR.out HN.out.1 HN.out.2.1 HN.out.2.2).mono ?_
      rintro e w2 ⟨rfl, rfl⟩
      rw [HV.out.1, HV.out.2]
      go_wp2_with fail
      go_ret
      exact ⟨by rw [HE.out]; rfl, by rw [HQ.out]; exact HR.out, Chg.refl _ _⟩
    · have HV : Hid (q.nxV = q.nx ∧ q.nxE = 0) := by show _ ∧ _; unfold Ro.nxV Ro.nxE; rw [if_neg h2, if_neg h2]; exact ⟨rfl, rfl⟩
      by_cases hn : n = q.nx
      · have HE : Hid (q.clE n = 0) := by show _ = _; unfold Ro.clE; rw [ha, if_neg (by simp), if_neg h2, if_pos hn]
        have HQ : Hid (q.claim n = ⟨q.nd, n, q.si, true⟩) := by show _ = _; unfold Ro.claim; rw [HE.out]; rfl
        have HX : Hid (q.nx = n) := hn.symm
        clear ha h2 hn
        go_enter Tryz.func92, Tryz.ntmps92
        go_wp2_with fail
        refine (rrnext_any b q _ HR.out HN.out.1 HN.out.2.1 HN.out.2.2).mono ?_
        rintro e w2 ⟨rfl, rfl⟩
        rw [HV.out.1, HV.out.2, HX.out]
        go_wp2_with fail
        go_ret
        exact ⟨by rw [HE.out]; rfl, by rw [HQ.out]; exact (HR.out.ac true).ep n, (Chg.set _ _ _ _).trans (Chg.set _ _ _ _)⟩
      · have HE : Hid (q.clE n = 3) := by show _ = _; unfold Ro.clE; rw [ha, if_neg (by simp), if_neg h2, if_neg hn]
        have HQ : Hid (q.claim n = q) := by show _ = _; unfold Ro.claim; rw [HE.out]; rfl
        clear ha h2
        generalize hx : q.nx = x at *
        have HX : Hid (q.nx = x) := hx
        clear hx
        have hn' : ¬ x = n := fun h => hn h.symm
        go_enter Tryz.func92, Tryz.ntmps92
        go_wp2_with fail
        refine (rrnext_any b q _ HR.out HN.out.1 HN.out.2.1 HN.out.2.2).mono ?_
        rintro e w2 ⟨rfl, rfl⟩
        rw [HV.out.1, HV.out.2]
        go_wp2_with fail
        go_ret
        exact ⟨by rw [HE.out]; rfl, by rw [HQ.out]; exact HR.out, Chg.refl _ _⟩
  · rw [ha] at c3
    have HE : Hid (q.clE n = 11) := by show _ = _; unfold Ro.clE; rw [ha, if_pos rfl]
    have HQ : Hid (q.claim n = q) := by show _ = _; unfold Ro.claim; rw [HE.out]; rfl
    clear ha
    go_enter Tryz.func92, Tryz.ntmps92
    go_wp2_with fail
    go_ret
    exact ⟨by rw [HE.out]; rfl, by rw [HQ.out]; exact HR.out, Chg.refl _ _⟩
set_option maxRecDepth 100000 in
set_option maxHeartbeats 2000000 in
theorem rhear_any (b : Nat) (q : Ro) (n : Int) (w : World) (R : RRol w b q) :
    Calls Tryz.prog 88 #[.pointer (some ⟨b, 0, none⟩), .int .i64 n] w fun e w' => e = .returned (.bool (q.rfalls n)) ∧ RRol w' b (q.rhear n) ∧ Chg b w w' := by
  have HR : Hid (RRol w b q) := R
  have c1 := R.c1
  have c2 := R.c2
  have c3 := R.c3
  have f1 := R.fr 1
  have f2 := R.fr 2
  have f3 := R.fr 3
  clear R
  have HNO : Hid ((isEpR n = false ∨ n < q.ep) → q.rhear n = q ∧ q.rfalls n = false) := fun h => Ro.rhear_no h
  have HIS : Hid (0 ≤ n ∧ n ≤ 1073741824 → isEpR n = true) := fun h => isEpR_iff.2 h
  by_cases hn : n < 0
  · have HH := HNO.out (Or.inl (by unfold isEpR; rw [decide_eq_false (by omega)]; rfl))
    have HQ : Hid (q.rhear n = q ∧ q.rfalls n = false) := HH
    clear HH HNO HIS
    go_enter Tryz.func88, Tryz.ntmps88
    go_wp2_with fail
    go_ret
    exact ⟨by rw [HQ.out.2]; rfl, by rw [HQ.out.1]; exact HR.out, Chg.refl _ _⟩
  · by_cases hm : 1073741824 < n
    · have HH := HNO.out (Or.inl (by unfold isEpR; rw [decide_eq_false (show ¬ n ≤ 1073741824 by omega)]; simp))
      have HQ : Hid (q.rhear n = q ∧ q.rfalls n = false) := HH
      clear HH HNO HIS
      go_enter Tryz.func88, Tryz.ntmps88
      go_wp2_with fail
      go_ret
      exact ⟨by rw [HQ.out.2]; rfl, by rw [HQ.out.1]; exact HR.out, Chg.refl _ _⟩
    · have hp := HIS.out (by omega)
      by_cases hl : n < q.ep
      · have HQ : Hid (q.rhear n = q ∧ q.rfalls n = false) := HNO.out (Or.inr hl)
        clear HNO HIS hp
        have hne : (n == q.ep) = false := beq_eq_false_iff_ne.2 (by omega)
        have hg : ¬ q.ep < n := by omega
        cases ha : q.ac
        all_goals
          rw [ha] at c3
          clear ha
          go_enter Tryz.func88, Tryz.ntmps88
          go_wp2_with fail
          go_ret
          exact ⟨by rw [HQ.out.2]; rfl, by rw [HQ.out.1]; exact HR.out, Chg.refl _ _⟩
      · by_cases hg : q.ep < n
        · have HQ : Hid (q.rhear n = ⟨q.nd, n, 0, false⟩ ∧ q.rfalls n = q.ac) := Ro.rhear_gt hp hg
          clear HNO HIS hp
          have d1 := World.cell?_setCell_same w ⟨b, 1, none⟩ (.int .i64 n) c1
          have d3 := World.cell?_setCell_same (w.setCell ⟨b, 1, none⟩ (.int .i64 n)) ⟨b, 3, none⟩ (.bool false) ((World.cell?_setCell_other _ _ _ _ (by simp)).trans c3)
          go_enter Tryz.func88, Tryz.ntmps88
          go_wp2_with fail
          go_ret
          exact ⟨by rw [HQ.out.2]; rfl, by rw [HQ.out.1]; exact ((HR.out.ep n).ac false).si 0, ((Chg.set _ _ _ _).trans (Chg.set _ _ _ _)).trans (Chg.set _ _ _ _)⟩
        · obtain rfl : n = q.ep := by omega
          have HQ : Hid (q.rhear q.ep = (if q.ac = false then ⟨q.nd, q.ep, 0, false⟩ else q) ∧ q.rfalls q.ep = false) := Ro.rhear_eq hp
          clear HNO HIS hp
          generalize hx : q.ep = x at *
          have HX : Hid (q.ep = x) := hx
          clear hx
          cases ha : q.ac
          · rw [ha] at c3
            have HA : Hid (q.ac = false) := ha
            clear ha
            go_enter Tryz.func88, Tryz.ntmps88
            go_wp2_with fail
            go_ret
            refine ⟨by rw [HQ.out.2]; rfl, ?_, Chg.set _ _ _ _⟩
            rw [HQ.out.1, if_pos HA.out]
            have := HR.out.si 0
            rw [HX.out, HA.out] at this
            exact this
          · rw [ha] at c3
            have HA : Hid (¬ q.ac = false) := by show ¬ _; rw [ha]; simp
            clear ha
            go_enter Tryz.func88, Tryz.ntmps88
            go_wp2_with fail
            go_ret
            exact ⟨by rw [HQ.out.2]; rfl, by rw [HQ.out.1, if_neg HA.out]; exact HR.out, Chg.refl _ _⟩
/-- what a law has: both roles, all else as it was in w0. -/
structure Two (w0 w : World) (b m : Nat) (r q : Ro) : Prop where
  y : Rol w b r
  z : RRol w m q
  ne : b ≠ m
  hb : w0.heap.size ≤ b
  hm : w0.heap.size ≤ m
  bl : Below w0.heap.size w0 w
theorem Two.below {w0 w w' : World} {b m : Nat} {r q : Ro} (h : Two w0 w b m r q) (k : Below w.heap.size w w') : Two w0 w' b m r q := ⟨h.y.below k, h.z.below k, h.ne, h.hb, h.hm, t2 h.bl k⟩
theorem Two.one {w0 w w' : World} {b m : Nat} {r q r' : Ro} (h : Two w0 w b m r q) (a : Rol w' b r') (k : Chg b w w') : Two w0 w' b m r' q := ⟨a, h.z.chg k (fun e => h.ne e.symm), h.ne, h.hb, h.hm, Chg.below h.bl k h.hb⟩
theorem Two.two {w0 w w' : World} {b m : Nat} {r q q' : Ro} (h : Two w0 w b m r q) (a : RRol w' m q') (k : Chg m w w') : Two w0 w' b m r q' := ⟨h.y.chg k h.ne, a, h.ne, h.hb, h.hm, Chg.below h.bl k h.hm⟩
theorem tick_two {w0 w : World} {b m : Nat} {r q : Ro} (h : Two w0 w b m r q) (k : r.Ok) :
    Calls Tryz.prog 57 #[.pointer (some ⟨b, 0, none⟩)] w fun e w' => e = .returned (.bool r.rings) ∧ Two w0 w' b m r.tick q := by
  refine (tick_any b r w h.y k).mono ?_
  rintro e w' ⟨rfl, a1, a2⟩
  exact ⟨rfl, h.one a1 a2⟩
theorem rtick_two {w0 w : World} {b m : Nat} {r q : Ro} (h : Two w0 w b m r q) (h0 : 0 ≤ q.si) (h1 : q.si ≤ 1000000) :
    Calls Tryz.prog 90 #[.pointer (some ⟨m, 0, none⟩)] w fun e w' => e = .returned (.bool q.rrings) ∧ Two w0 w' b m r q.rtick := by
  refine (rtick_any m q w h.z h0 h1).mono ?_
  rintro e w' ⟨rfl, a1, a2⟩
  exact ⟨rfl, h.two a1 a2⟩
theorem hear_two {w0 w : World} {b m : Nat} {r q : Ro} (h : Two w0 w b m r q) (n : Int) :
    Calls Tryz.prog 85 #[.pointer (some ⟨b, 0, none⟩), .int .i64 n] w fun e w' => e = .returned (.bool (r.falls n)) ∧ Two w0 w' b m (r.hear n) q := by
  refine (hear_any b r n w h.y).mono ?_
  rintro e w' ⟨rfl, a1, a2⟩
  exact ⟨rfl, h.one a1 a2⟩
theorem rhear_two {w0 w : World} {b m : Nat} {r q : Ro} (h : Two w0 w b m r q) (n : Int) :
    Calls Tryz.prog 88 #[.pointer (some ⟨m, 0, none⟩), .int .i64 n] w fun e w' => e = .returned (.bool (q.rfalls n)) ∧ Two w0 w' b m r (q.rhear n) := by
  refine (rhear_any m q n w h.z).mono ?_
  rintro e w' ⟨rfl, a1, a2⟩
  exact ⟨rfl, h.two a1 a2⟩
theorem claim_two {w0 w : World} {b m : Nat} {r q : Ro} (h : Two w0 w b m r q) (k : r.Ok) (n : Int) (s : Nat → Addr) (S : Se3 w0 s) :
    Calls Tryz.prog 102 #[.pointer (some ⟨b, 0, none⟩), .int .i64 n] w fun e w' => e = .returned (terr s (r.clE n)) ∧ Two w0 w' b m (r.claim n) q := by
  refine (claim_any b r n s w h.y k (S.below h.bl)).mono ?_
  rintro e w' ⟨rfl, a1, a2⟩
  exact ⟨rfl, h.one a1 a2⟩
theorem rclaim_two {w0 w : World} {b m : Nat} {r q : Ro} (h : Two w0 w b m r q) (n : Int) (hn : q.nd = 0 ∨ q.nd = 1) (h0 : 0 ≤ q.ep) (h1 : q.ep ≤ 1073741824) :
    Calls Tryz.prog 92 #[.pointer (some ⟨m, 0, none⟩), .int .i64 n] w fun e w' => e = .returned (.int .i64 (q.clE n : Int)) ∧ Two w0 w' b m r (q.claim n) := by
  refine (rclaim_any m q n w h.z hn h0 h1).mono ?_
  rintro e w' ⟨rfl, a1, a2⟩
  exact ⟨rfl, h.two a1 a2⟩
theorem next_two {w0 w : World} {b m : Nat} {r q : Ro} (h : Two w0 w b m r q) (k : r.Ok) (s : Nat → Addr) (S : Se3 w0 s) :
    Calls Tryz.prog 100 #[.pointer (some ⟨b, 0, none⟩)] w fun e w' => e = .returned (.tuple #[.int .i64 r.nxV, terr s r.nxE]) ∧ Two w0 w' b m r q := by
  refine (next_any b r s w h.y k (S.below h.bl)).mono ?_
  rintro e w' ⟨rfl, a1⟩
  exact ⟨rfl, h.below a1⟩
end Go.Proofs.YtifjoboaolpejaaGreatDoor
