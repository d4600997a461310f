/-
  Package table's lay: the one place where a slot changes.
-/
import Derived.Test.YtifkbafdjkgnoaaDoorTbC
namespace Go.Proofs.YtifkbafdjkgnoaaDoor
open Go.RowKit

theorem Tab.chg {b c : Nat} {low : Int} {T : Tb} {w w' : World} (h : Tab w c low T) (k : Chg b w w') (hn : c ≠ b) : Tab w' c low T := by
  unfold Tab; rw [k.block c h.lt hn]; exact h
/-- a flow's eight cells written. -/
theorem tab_put8 {w : World} {b : Nat} {low : Int} {T : Tb} (h : Tab w b low T) (k : Nat) (c : Ce) (hk : k < 32) : Tab ((((((((w.setCell ⟨b, 1 + k * 10 + 2, none⟩ (.int .i64 c.pr)).setCell ⟨b, 1 + k * 10 + 2 + 1, none⟩ (.int .i64 c.ia)).setCell ⟨b, 1 + k * 10 + 2 + 2, none⟩ (.int .i64 c.ip)).setCell ⟨b, 1 + k * 10 + 2 + 3, none⟩ (.int .i64 c.fa)).setCell ⟨b, 1 + k * 10 + 2 + 4, none⟩ (.int .i64 c.fp)).setCell ⟨b, 1 + k * 10 + 2 + 5, none⟩ (.int .i64 c.po)).setCell ⟨b, 1 + k * 10 + 2 + 6, none⟩ (.int .i64 c.st)).setCell ⟨b, 1 + k * 10 + 2 + 7, none⟩ (.int .i64 c.un)) b low (upd T k ⟨(T k).ve, c.pr, c.ia, c.ip, c.fa, c.fp, c.po, c.st, c.un⟩) := by
  have h := h.put (i := k) (k := 2) c.pr hk (by omega) (by omega)
  have h := h.put (i := k) (k := 3) c.ia hk (by omega) (by omega)
  have h := h.put (i := k) (k := 4) c.ip hk (by omega) (by omega)
  have h := h.put (i := k) (k := 5) c.fa hk (by omega) (by omega)
  have h := h.put (i := k) (k := 6) c.fp hk (by omega) (by omega)
  have h := h.put (i := k) (k := 7) c.po hk (by omega) (by omega)
  have h := h.put (i := k) (k := 8) c.st hk (by omega) (by omega)
  have h := h.put (i := k) (k := 9) c.un hk (by omega) (by omega)
  simp only [upd_same, upd_upd] at h
  exact h
theorem chg_put8 (w : World) (b k : Nat) (c : Ce) : Chg b w ((((((((w.setCell ⟨b, 1 + k * 10 + 2, none⟩ (.int .i64 c.pr)).setCell ⟨b, 1 + k * 10 + 2 + 1, none⟩ (.int .i64 c.ia)).setCell ⟨b, 1 + k * 10 + 2 + 2, none⟩ (.int .i64 c.ip)).setCell ⟨b, 1 + k * 10 + 2 + 3, none⟩ (.int .i64 c.fa)).setCell ⟨b, 1 + k * 10 + 2 + 4, none⟩ (.int .i64 c.fp)).setCell ⟨b, 1 + k * 10 + 2 + 5, none⟩ (.int .i64 c.po)).setCell ⟨b, 1 + k * 10 + 2 + 6, none⟩ (.int .i64 c.st)).setCell ⟨b, 1 + k * 10 + 2 + 7, none⟩ (.int .i64 c.un)) :=
  (((((((Chg.set b _ w _).trans (Chg.set b _ _ _)).trans (Chg.set b _ _ _)).trans (Chg.set b _ _ _)).trans (Chg.set b _ _ _)).trans (Chg.set b _ _ _)).trans (Chg.set b _ _ _)).trans (Chg.set b _ _ _)
set_option maxRecDepth 100000 in
set_option maxHeartbeats 4000000 in
theorem lay_any (b : Nat) (low : Int) (T : Tb) (k : Nat) (c : Ce) (w : World) (t : Tab w b low T) (hk : k < 32) (hv0 : 0 ≤ (T k).ve) (hv1 : (T k).ve ≤ 1000000) :
    Calls Tryd.prog 31 #[.pointer (some ⟨b, 0, none⟩), .int .i64 k, flowV c] w fun e w' => e = .returned (.tuple #[]) ∧ Tab w' b low (layT T k c.pr c.ia c.ip c.fa c.fp c.po c.st c.un) ∧ Chg b w w' := by
  have HT : Hid (Tab w b low T) := t
  have hbl := t.lt
  have hi0 : (0 : Int) ≤ (k : Int) := by omega
  have hi1 : (k : Int) < 32 := by omega
  have hF : flowV c = .agg #[.int .i64 c.pr, .int .i64 c.ia, .int .i64 c.ip, .int .i64 c.fa, .int .i64 c.fp, .int .i64 c.po, .int .i64 c.st, .int .i64 c.un] := rfl
  rw [hF]
  clear t hF
  go_enter Tryd.func31, Tryd.ntmps31
  go_wp2_with fail
  have HB0 : Hid (Below w.heap.size w (w.alloc (.cells #[.int .i64 c.pr, .int .i64 c.ia, .int .i64 c.ip, .int .i64 c.fa, .int .i64 c.fp, .int .i64 c.po, .int .i64 c.st, .int .i64 c.un] 36))) := (Below.refl _ _).alloc (Nat.le_refl _) _
  have T0 : Hid (Tab (w.alloc (.cells #[.int .i64 c.pr, .int .i64 c.ia, .int .i64 c.ip, .int .i64 c.fa, .int .i64 c.fp, .int .i64 c.po, .int .i64 c.st, .int .i64 c.un] 36)) b low T) := HT.out.alloc _
  have g0 : (w.alloc (.cells #[.int .i64 c.pr, .int .i64 c.ia, .int .i64 c.ip, .int .i64 c.fa, .int .i64 c.fp, .int .i64 c.po, .int .i64 c.st, .int .i64 c.un] 36)).cell? ⟨w.heap.size, 0, none⟩ = some (.int .i64 c.pr) := (nw _ _ _ _).trans rfl
  have g1 : (w.alloc (.cells #[.int .i64 c.pr, .int .i64 c.ia, .int .i64 c.ip, .int .i64 c.fa, .int .i64 c.fp, .int .i64 c.po, .int .i64 c.st, .int .i64 c.un] 36)).cell? ⟨w.heap.size, 1, none⟩ = some (.int .i64 c.ia) := (nw _ _ _ _).trans rfl
  have g2 : (w.alloc (.cells #[.int .i64 c.pr, .int .i64 c.ia, .int .i64 c.ip, .int .i64 c.fa, .int .i64 c.fp, .int .i64 c.po, .int .i64 c.st, .int .i64 c.un] 36)).cell? ⟨w.heap.size, 2, none⟩ = some (.int .i64 c.ip) := (nw _ _ _ _).trans rfl
  have g3 : (w.alloc (.cells #[.int .i64 c.pr, .int .i64 c.ia, .int .i64 c.ip, .int .i64 c.fa, .int .i64 c.fp, .int .i64 c.po, .int .i64 c.st, .int .i64 c.un] 36)).cell? ⟨w.heap.size, 3, none⟩ = some (.int .i64 c.fa) := (nw _ _ _ _).trans rfl
  have g4 : (w.alloc (.cells #[.int .i64 c.pr, .int .i64 c.ia, .int .i64 c.ip, .int .i64 c.fa, .int .i64 c.fp, .int .i64 c.po, .int .i64 c.st, .int .i64 c.un] 36)).cell? ⟨w.heap.size, 4, none⟩ = some (.int .i64 c.fp) := (nw _ _ _ _).trans rfl
  have g5 : (w.alloc (.cells #[.int .i64 c.pr, .int .i64 c.ia, .int .i64 c.ip, .int .i64 c.fa, .int .i64 c.fp, .int .i64 c.po, .int .i64 c.st, .int .i64 c.un] 36)).cell? ⟨w.heap.size, 5, none⟩ = some (.int .i64 c.po) := (nw _ _ _ _).trans rfl
  have g6 : (w.alloc (.cells #[.int .i64 c.pr, .int .i64 c.ia, .int .i64 c.ip, .int .i64 c.fa, .int .i64 c.fp, .int .i64 c.po, .int .i64 c.st, .int .i64 c.un] 36)).cell? ⟨w.heap.size, 6, none⟩ = some (.int .i64 c.st) := (nw _ _ _ _).trans rfl
  have g7 : (w.alloc (.cells #[.int .i64 c.pr, .int .i64 c.ia, .int .i64 c.ip, .int .i64 c.fa, .int .i64 c.fp, .int .i64 c.po, .int .i64 c.st, .int .i64 c.un] 36)).cell? ⟨w.heap.size, 7, none⟩ = some (.int .i64 c.un) := (nw _ _ _ _).trans rfl
  generalize w.alloc (.cells #[.int .i64 c.pr, .int .i64 c.ia, .int .i64 c.ip, .int .i64 c.fa, .int .i64 c.fp, .int .i64 c.po, .int .i64 c.st, .int .i64 c.un] 36) = w0 at *
  have a0 := T0.out.at' (k := 2) hk (by omega)
  have a1 := T0.out.at' (k := 3) hk (by omega)
  have a2 := T0.out.at' (k := 4) hk (by omega)
  have a3 := T0.out.at' (k := 5) hk (by omega)
  have a4 := T0.out.at' (k := 6) hk (by omega)
  have a5 := T0.out.at' (k := 7) hk (by omega)
  have a6 := T0.out.at' (k := 8) hk (by omega)
  have a7 := T0.out.at' (k := 9) hk (by omega)
  have fz := T0.out.fr
  generalize hZ : w.heap.size = Z at *
  go_region
  have T1 : Hid (Tab ((((((((w0.setCell ⟨b, 1 + k * 10 + 2, none⟩ (.int .i64 c.pr)).setCell ⟨b, 1 + k * 10 + 2 + 1, none⟩ (.int .i64 c.ia)).setCell ⟨b, 1 + k * 10 + 2 + 2, none⟩ (.int .i64 c.ip)).setCell ⟨b, 1 + k * 10 + 2 + 3, none⟩ (.int .i64 c.fa)).setCell ⟨b, 1 + k * 10 + 2 + 4, none⟩ (.int .i64 c.fp)).setCell ⟨b, 1 + k * 10 + 2 + 5, none⟩ (.int .i64 c.po)).setCell ⟨b, 1 + k * 10 + 2 + 6, none⟩ (.int .i64 c.st)).setCell ⟨b, 1 + k * 10 + 2 + 7, none⟩ (.int .i64 c.un)).drew b low (upd T k ⟨(T k).ve, c.pr, c.ia, c.ip, c.fa, c.fp, c.po, c.st, c.un⟩)) := (tab_put8 T0.out k c hk).drew
  have C1 : Hid (Chg b w ((((((((w0.setCell ⟨b, 1 + k * 10 + 2, none⟩ (.int .i64 c.pr)).setCell ⟨b, 1 + k * 10 + 2 + 1, none⟩ (.int .i64 c.ia)).setCell ⟨b, 1 + k * 10 + 2 + 2, none⟩ (.int .i64 c.ip)).setCell ⟨b, 1 + k * 10 + 2 + 3, none⟩ (.int .i64 c.fa)).setCell ⟨b, 1 + k * 10 + 2 + 4, none⟩ (.int .i64 c.fp)).setCell ⟨b, 1 + k * 10 + 2 + 5, none⟩ (.int .i64 c.po)).setCell ⟨b, 1 + k * 10 + 2 + 6, none⟩ (.int .i64 c.st)).setCell ⟨b, 1 + k * 10 + 2 + 7, none⟩ (.int .i64 c.un)).drew) := by
    subst hZ
    exact ((Chg.of HB0.out).trans (chg_put8 w0 b k c)).then (Below.refl _ _).drew
  generalize ((((((((w0.setCell ⟨b, 1 + k * 10 + 2, none⟩ (.int .i64 c.pr)).setCell ⟨b, 1 + k * 10 + 2 + 1, none⟩ (.int .i64 c.ia)).setCell ⟨b, 1 + k * 10 + 2 + 2, none⟩ (.int .i64 c.ip)).setCell ⟨b, 1 + k * 10 + 2 + 3, none⟩ (.int .i64 c.fa)).setCell ⟨b, 1 + k * 10 + 2 + 4, none⟩ (.int .i64 c.fp)).setCell ⟨b, 1 + k * 10 + 2 + 5, none⟩ (.int .i64 c.po)).setCell ⟨b, 1 + k * 10 + 2 + 6, none⟩ (.int .i64 c.st)).setCell ⟨b, 1 + k * 10 + 2 + 7, none⟩ (.int .i64 c.un)).drew = w1 at *
  clear a0 a1 a2 a3 a4 a5 a6 a7 g0 g1 g2 g3 g4 g5 g6 g7 fz HB0 T0
  have a1 : w1.cell? ⟨b, 1 + k * 10 + 1, none⟩ = some (.int .i64 (T k).ve) := by
    have := T1.out.at' (k := 1) hk (by omega)
    rw [upd_same] at this
    exact this
  have fz := T1.out.fr
  have hw : IntKind.i64.wrap ((T k).ve + 1) = (T k).ve + 1 := by rw [IntKind.wrap_i64]; omega
  go_wp2_with fail
  go_region
  go_end0
  refine ⟨rfl, ?_, (C1.out.trans (Chg.set b _ _ _)).then (Below.refl _ _).drew⟩
  have h := (T1.out.put (i := k) (k := 1) ((T k).ve + 1) hk (by omega) (by omega)).drew
  simp only [upd_same, upd_upd] at h
  exact h
end Go.Proofs.YtifkbafdjkgnoaaDoor
