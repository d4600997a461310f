/-
  The document's table: change.
-/
import Derived.Test.YtifkbafdjkgnoaaDoorTrA
namespace Go.Proofs.YtifkbafdjkgnoaaDoor
open Go.RowKit

theorem sl_put10 {w : World} {g : Nat} {T : Tb} (h : Sl10 w g T) (k : Nat) (c : Ce) (hk : k < 32) : Sl10 ((((((((((w.setCell ⟨g, k * 10, none⟩ (.int .i64 (k : Int))).setCell ⟨g, k * 10 + 1, none⟩ (.int .i64 ((T k).ve + 1))).setCell ⟨g, k * 10 + 2, none⟩ (.int .i64 c.pr)).setCell ⟨g, k * 10 + 3, none⟩ (.int .i64 c.ia)).setCell ⟨g, k * 10 + 4, none⟩ (.int .i64 c.ip)).setCell ⟨g, k * 10 + 5, none⟩ (.int .i64 c.fa)).setCell ⟨g, k * 10 + 6, none⟩ (.int .i64 c.fp)).setCell ⟨g, k * 10 + 7, none⟩ (.int .i64 c.po)).setCell ⟨g, k * 10 + 8, none⟩ (.int .i64 c.st)).setCell ⟨g, k * 10 + 9, none⟩ (.int .i64 c.un)) g (layT T k c.pr c.ia c.ip c.fa c.fp c.po c.st c.un) := by
  have h := h.slot hk
  have h := h.put (i := k) (k := 1) ((T k).ve + 1) hk (by omega) (by omega)
  have h := h.put (i := k) (k := 2) c.pr hk (by omega) (by omega)
  have h := h.put (i := k) (k := 3) c.ia hk (by omega) (by omega)
  have h := h.put (i := k) (k := 4) c.ip hk (by omega) (by omega)
  have h := h.put (i := k) (k := 5) c.fa hk (by omega) (by omega)
  have h := h.put (i := k) (k := 6) c.fp hk (by omega) (by omega)
  have h := h.put (i := k) (k := 7) c.po hk (by omega) (by omega)
  have h := h.put (i := k) (k := 8) c.st hk (by omega) (by omega)
  have h := h.put (i := k) (k := 9) c.un hk (by omega) (by omega)
  simp only [upd_same, upd_upd] at h
  exact h
theorem chg_put10 (w : World) (T : Tb) (g k : Nat) (c : Ce) : Chg g w ((((((((((w.setCell ⟨g, k * 10, none⟩ (.int .i64 (k : Int))).setCell ⟨g, k * 10 + 1, none⟩ (.int .i64 ((T k).ve + 1))).setCell ⟨g, k * 10 + 2, none⟩ (.int .i64 c.pr)).setCell ⟨g, k * 10 + 3, none⟩ (.int .i64 c.ia)).setCell ⟨g, k * 10 + 4, none⟩ (.int .i64 c.ip)).setCell ⟨g, k * 10 + 5, none⟩ (.int .i64 c.fa)).setCell ⟨g, k * 10 + 6, none⟩ (.int .i64 c.fp)).setCell ⟨g, k * 10 + 7, none⟩ (.int .i64 c.po)).setCell ⟨g, k * 10 + 8, none⟩ (.int .i64 c.st)).setCell ⟨g, k * 10 + 9, none⟩ (.int .i64 c.un)) :=
  (((((((((Chg.set g _ w _).trans (Chg.set g _ _ _)).trans (Chg.set g _ _ _)).trans (Chg.set g _ _ _)).trans (Chg.set g _ _ _)).trans (Chg.set g _ _ _)).trans (Chg.set g _ _ _)).trans (Chg.set g _ _ _)).trans (Chg.set g _ _ _)).trans (Chg.set g _ _ _)
set_option maxRecDepth 100000 in
set_option maxHeartbeats 4000000 in
theorem change_any (m g cap : Nat) (low : Int) (T : Tb) (k : Nat) (c : Ce) (w : World) (t : RTab w m g cap low T) (hk : k < 32) (hv0 : 0 ≤ (T k).ve) (hv1 : (T k).ve ≤ 1000000) :
    Calls Tryd.prog 45 #[.pointer (some ⟨m, 0, none⟩), .int .i64 k, flowV c] w fun e w' => e = .returned (.tuple #[]) ∧ RTab w' m g cap low (layT T k c.pr c.ia c.ip c.fa c.fp c.po c.st c.un) ∧ Chg g w w' := by
  have hi0 : (0 : Int) ≤ (k : Int) := by omega
  have hi1 : (k : Int) < 32 := by omega
  have hF : flowV c = .agg #[.int .i64 c.pr, .int .i64 c.ia, .int .i64 c.ip, .int .i64 c.fa, .int .i64 c.fp, .int .i64 c.po, .int .i64 c.st, .int .i64 c.un] := rfl
  have hw : IntKind.i64.wrap ((T k).ve + 1) = (T k).ve + 1 := by rw [IntKind.wrap_i64]; omega
  rw [hF]
  have B0 : Hid (Below w.heap.size w (w.alloc (.cells #[.int .i64 c.pr, .int .i64 c.ia, .int .i64 c.ip, .int .i64 c.fa, .int .i64 c.fp, .int .i64 c.po, .int .i64 c.st, .int .i64 c.un] 36))) := aB _ _
  have F0 : Hid (FlB (w.alloc (.cells #[.int .i64 c.pr, .int .i64 c.ia, .int .i64 c.ip, .int .i64 c.fa, .int .i64 c.fp, .int .i64 c.po, .int .i64 c.st, .int .i64 c.un] 36)) w.heap.size c) := flB_new w c
  have R0 : Hid (RTab (w.alloc (.cells #[.int .i64 c.pr, .int .i64 c.ia, .int .i64 c.ip, .int .i64 c.fa, .int .i64 c.fp, .int .i64 c.po, .int .i64 c.st, .int .i64 c.un] 36)) m g cap low T) := t.below (aB _ _)
  have HG : Hid (g < w.heap.size) := t.sl.lt
  clear t hF
  go_enter Tryd.func45, Tryd.ntmps45
  go_wp2_with fail
  generalize w.alloc (.cells #[.int .i64 c.pr, .int .i64 c.ia, .int .i64 c.ip, .int .i64 c.fa, .int .i64 c.fp, .int .i64 c.po, .int .i64 c.st, .int .i64 c.un] 36) = w0 at *
  generalize hZ : w.heap.size = Z at F0 ⊢
  have m1 := R0.out.c1
  have f0 := F0.out.c0
  have f1 := F0.out.c1
  have f2 := F0.out.c2
  have f3 := F0.out.c3
  have f4 := F0.out.c4
  have f5 := F0.out.c5
  have f6 := F0.out.c6
  have f7 := F0.out.c7
  have a0 := R0.out.sl.at' (i := k) (k := 0) hk (by omega)
  have a1 := R0.out.sl.at' (i := k) (k := 1) hk (by omega)
  have a2 := R0.out.sl.at' (i := k) (k := 2) hk (by omega)
  have a3 := R0.out.sl.at' (i := k) (k := 3) hk (by omega)
  have a4 := R0.out.sl.at' (i := k) (k := 4) hk (by omega)
  have a5 := R0.out.sl.at' (i := k) (k := 5) hk (by omega)
  have a6 := R0.out.sl.at' (i := k) (k := 6) hk (by omega)
  have a7 := R0.out.sl.at' (i := k) (k := 7) hk (by omega)
  have a8 := R0.out.sl.at' (i := k) (k := 8) hk (by omega)
  have a9 := R0.out.sl.at' (i := k) (k := 9) hk (by omega)
  simp only [Ce.get, Nat.add_zero] at a0 a1 a2 a3 a4 a5 a6 a7 a8 a9
  have fz := R0.out.sl.fr
  go_region
  go_end0
  have hc := (chg_put10 w0 T g k c).then (Below.refl _ _).drew
  refine ⟨rfl, ⟨hc.keeps (by exact R0.out.ne) R0.out.c0, hc.keeps (by exact R0.out.ne) R0.out.c1, (sl_put10 R0.out.sl k c hk).below (Below.refl _ _).drew, R0.out.ne⟩, (Chg.of B0.out).trans hc⟩
end Go.Proofs.YtifkbafdjkgnoaaDoor
