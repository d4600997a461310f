/-
  Package mirror's take.
-/
import Derived.Test.YtifkbafdjkgnoaaDoorMiA
namespace Go.Proofs.YtifkbafdjkgnoaaDoor
open Go.RowKit

theorem put_all (d c : Ce) : (((((((((d.put c.ve 1).put c.pr 2).put c.ia 3).put c.ip 4).put c.fa 5).put c.fp 6).put c.po 7).put c.st 8).put c.un 9) = c := by
  cases c
  rfl
theorem mir_put10 {w : World} {b : Nat} {life : Int} {T : Tb} (h : Mir w b life T) (k : Nat) (c : Ce) (hk : k < 32) : Mir ((((((((((w.setCell ⟨b, 1 + k * 10, none⟩ (.int .i64 k)).setCell ⟨b, 1 + k * 10 + 1, none⟩ (.int .i64 c.ve)).setCell ⟨b, 1 + k * 10 + 2, none⟩ (.int .i64 c.pr)).setCell ⟨b, 1 + k * 10 + 3, none⟩ (.int .i64 c.ia)).setCell ⟨b, 1 + k * 10 + 4, none⟩ (.int .i64 c.ip)).setCell ⟨b, 1 + k * 10 + 5, none⟩ (.int .i64 c.fa)).setCell ⟨b, 1 + k * 10 + 6, none⟩ (.int .i64 c.fp)).setCell ⟨b, 1 + k * 10 + 7, none⟩ (.int .i64 c.po)).setCell ⟨b, 1 + k * 10 + 8, none⟩ (.int .i64 c.st)).setCell ⟨b, 1 + k * 10 + 9, none⟩ (.int .i64 c.un)) b life (upd T k c) := by
  have h := h.putSlot (i := k) hk
  have h := h.put (i := k) (k := 1) c.ve hk (by omega) (by omega)
  have h := h.put (i := k) (k := 2) c.pr hk (by omega) (by omega)
  have h := h.put (i := k) (k := 3) c.ia hk (by omega) (by omega)
  have h := h.put (i := k) (k := 4) c.ip hk (by omega) (by omega)
  have h := h.put (i := k) (k := 5) c.fa hk (by omega) (by omega)
  have h := h.put (i := k) (k := 6) c.fp hk (by omega) (by omega)
  have h := h.put (i := k) (k := 7) c.po hk (by omega) (by omega)
  have h := h.put (i := k) (k := 8) c.st hk (by omega) (by omega)
  have h := h.put (i := k) (k := 9) c.un hk (by omega) (by omega)
  simp only [upd_same, upd_upd, put_all] at h
  exact h
theorem mchg_put10 (w : World) (b k : Nat) (c : Ce) : Chg b w ((((((((((w.setCell ⟨b, 1 + k * 10, none⟩ (.int .i64 k)).setCell ⟨b, 1 + k * 10 + 1, none⟩ (.int .i64 c.ve)).setCell ⟨b, 1 + k * 10 + 2, none⟩ (.int .i64 c.pr)).setCell ⟨b, 1 + k * 10 + 3, none⟩ (.int .i64 c.ia)).setCell ⟨b, 1 + k * 10 + 4, none⟩ (.int .i64 c.ip)).setCell ⟨b, 1 + k * 10 + 5, none⟩ (.int .i64 c.fa)).setCell ⟨b, 1 + k * 10 + 6, none⟩ (.int .i64 c.fp)).setCell ⟨b, 1 + k * 10 + 7, none⟩ (.int .i64 c.po)).setCell ⟨b, 1 + k * 10 + 8, none⟩ (.int .i64 c.st)).setCell ⟨b, 1 + k * 10 + 9, none⟩ (.int .i64 c.un)) :=
  (((((((((Chg.set b _ w _).trans (Chg.set b _ _ _)).trans (Chg.set b _ _ _)).trans (Chg.set b _ _ _)).trans (Chg.set b _ _ _)).trans (Chg.set b _ _ _)).trans (Chg.set b _ _ _)).trans (Chg.set b _ _ _)).trans (Chg.set b _ _ _)).trans (Chg.set b _ _ _)
set_option maxRecDepth 100000 in
set_option maxHeartbeats 4000000 in
theorem take_nat (b : Nat) (life : Int) (T : Tb) (k : Nat) (c : Ce) (w : World) (M : Mir w b life T) (hk : k < 32) :
    Calls Tryd.prog 38 #[.pointer (some ⟨b, 0, none⟩), .agg #[.int .i64 k, .int .i64 c.ve, .int .i64 c.pr, .int .i64 c.ia, .int .i64 c.ip, .int .i64 c.fa, .int .i64 c.fp, .int .i64 c.po, .int .i64 c.st, .int .i64 c.un]] w fun e w' => e = .returned (.tuple #[]) ∧ Mir w' b life (if (T k).ve < c.ve then upd T k c else T) ∧ Chg b w w' := by
  obtain ⟨x, hx⟩ : ∃ x, x = (T k).ve := ⟨_, rfl⟩
  have HM : Hid (Mir w b life T) := M
  have HXE : Hid (x = (T k).ve) := hx
  have hi0 : (0 : Int) ≤ (k : Int) := by omega
  have hi1 : (k : Int) < 32 := by omega
  rw [← hx]
  clear M hx
  have M0 : Hid (Mir (w.alloc (.cells #[.int .i64 k, .int .i64 c.ve, .int .i64 c.pr, .int .i64 c.ia, .int .i64 c.ip, .int .i64 c.fa, .int .i64 c.fp, .int .i64 c.po, .int .i64 c.st, .int .i64 c.un] 59)) b life T) := HM.out.below (aB _ _)
  have C0 : Hid (Chg b w (w.alloc (.cells #[.int .i64 k, .int .i64 c.ve, .int .i64 c.pr, .int .i64 c.ia, .int .i64 c.ip, .int .i64 c.fa, .int .i64 c.fp, .int .i64 c.po, .int .i64 c.st, .int .i64 c.un] 59))) := Chg.of (aB _ _)
  have HX : Hid (TcAt (w.alloc (.cells #[.int .i64 k, .int .i64 c.ve, .int .i64 c.pr, .int .i64 c.ia, .int .i64 c.ip, .int .i64 c.fa, .int .i64 c.fp, .int .i64 c.po, .int .i64 c.st, .int .i64 c.un] 59)) w.heap.size 0 ⟨k, c⟩) := tcAt_new w ⟨k, c⟩ _
  have HN : Hid (w.heap.size ≠ b) := fun e => by have := HM.out.lt; omega
  by_cases hlt : x < c.ve
  · rw [if_pos hlt]
    go_enter Tryd.func38, Tryd.ntmps38
    go_wp2_with fail
    generalize w.alloc (.cells #[.int .i64 k, .int .i64 c.ve, .int .i64 c.pr, .int .i64 c.ia, .int .i64 c.ip, .int .i64 c.fa, .int .i64 c.fp, .int .i64 c.po, .int .i64 c.st, .int .i64 c.un] 59) = w0 at *
    obtain ⟨Z, hZ⟩ : ∃ Z, Z = w.heap.size := ⟨_, rfl⟩
    rw [← hZ] at HX HN ⊢
    clear hZ HM
    have m1 : w0.cell? ⟨b, 1 + k * 10 + 1, none⟩ = some (.int .i64 x) := by rw [HXE.out]; exact M0.out.at' hk (by omega)
    have a0 := HX.out.c0
    have a1 := HX.out.c1
    simp only [Nat.zero_add] at a1
    go_wp2_with fail
    go_region
    have M1 : Hid (Mir w0.drew b life T) := M0.out.below (Below.refl _ _).drew
    have C1 : Hid (Chg b w w0.drew) := C0.out.then (Below.refl _ _).drew
    have HX1 : Hid (TcAt w0.drew Z 0 ⟨k, c⟩) := HX.out.below (Below.refl _ _).drew
    generalize w0.drew = w1 at *
    clear a0 a1 m1 M0 C0 HX
    have a0 := HX1.out.c0
    have a1 := HX1.out.c1
    have a2 := HX1.out.c2
    have a3 := HX1.out.c3
    have a4 := HX1.out.c4
    have a5 := HX1.out.c5
    have a6 := HX1.out.c6
    have a7 := HX1.out.c7
    have a8 := HX1.out.c8
    have a9 := HX1.out.c9
    have g0 := M1.out.at' (k := 0) hk (by omega)
    have g1 := M1.out.at' (k := 1) hk (by omega)
    have g2 := M1.out.at' (k := 2) hk (by omega)
    have g3 := M1.out.at' (k := 3) hk (by omega)
    have g4 := M1.out.at' (k := 4) hk (by omega)
    have g5 := M1.out.at' (k := 5) hk (by omega)
    have g6 := M1.out.at' (k := 6) hk (by omega)
    have g7 := M1.out.at' (k := 7) hk (by omega)
    have g8 := M1.out.at' (k := 8) hk (by omega)
    have g9 := M1.out.at' (k := 9) hk (by omega)
    simp only [Nat.zero_add, Nat.add_zero] at a1 a2 a3 a4 a5 a6 a7 a8 a9 g0
    have fz := M1.out.fr
    go_wp2_with fail
    go_region
    go_end0
    exact ⟨rfl, (mir_put10 M1.out k c hk).below (Below.refl _ _).drew, (C1.out.trans (mchg_put10 _ _ _ _)).then (Below.refl _ _).drew⟩
  · rw [if_neg hlt]
    go_enter Tryd.func38, Tryd.ntmps38
    go_wp2_with fail
    generalize w.alloc (.cells #[.int .i64 k, .int .i64 c.ve, .int .i64 c.pr, .int .i64 c.ia, .int .i64 c.ip, .int .i64 c.fa, .int .i64 c.fp, .int .i64 c.po, .int .i64 c.st, .int .i64 c.un] 59) = w0 at *
    obtain ⟨Z, hZ⟩ : ∃ Z, Z = w.heap.size := ⟨_, rfl⟩
    rw [← hZ] at HX HN ⊢
    clear hZ HM
    have m1 : w0.cell? ⟨b, 1 + k * 10 + 1, none⟩ = some (.int .i64 x) := by rw [HXE.out]; exact M0.out.at' hk (by omega)
    have a0 := HX.out.c0
    have a1 := HX.out.c1
    simp only [Nat.zero_add] at a1
    go_wp2_with fail
    go_region
    go_wp2_with fail
    go_end0
    exact ⟨rfl, M0.out.below (Below.refl _ _).drew, C0.out.then (Below.refl _ _).drew⟩
theorem take_any (b : Nat) (life : Int) (T : Tb) (x : Tc) (w : World) (M : Mir w b life T) (hx : okS x = true) :
    Calls Tryd.prog 38 #[.pointer (some ⟨b, 0, none⟩), .agg #[.int .i64 x.sl, .int .i64 x.c.ve, .int .i64 x.c.pr, .int .i64 x.c.ia, .int .i64 x.c.ip, .int .i64 x.c.fa, .int .i64 x.c.fp, .int .i64 x.c.po, .int .i64 x.c.st, .int .i64 x.c.un]] w fun e w' => e = .returned (.tuple #[]) ∧ Mir w' b life (takeT T x) ∧ Chg b w w' := by
  obtain ⟨sl, c⟩ := x
  have h := okS_iff.1 hx
  simp only at h
  obtain ⟨k, rfl⟩ : ∃ k : Nat, sl = k := ⟨sl.toNat, by omega⟩
  exact take_nat b life T k c w M (by omega)
end Go.Proofs.YtifkbafdjkgnoaaDoor
