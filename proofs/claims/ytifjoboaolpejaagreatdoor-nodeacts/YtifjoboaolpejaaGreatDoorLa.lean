/-
  Texts in one: GeE TrA TrB TrC TrD TrE TrP TrF.
-/
import Derived.Test.YtifjoboaolpejaaGreatDoorKd
import Derived.OwnWalk
import Derived.Deep.RegionHeld3
namespace Go.Proofs.YtifjoboaolpejaaGreatDoor
open Go.RowKit

set_option maxRecDepth 100000 in
set_option maxHeartbeats 2000000 in
theorem empty_any (w : World) :
    Calls Tryz.prog 38 #[] w fun e w' => (∃ g cap, e = .returned (.slice (some ⟨g, 0, none⟩) 32 cap) ∧ w.heap.size ≤ g ∧ Sl10 w' g newT) ∧ Below w.heap.size w w' := by
  obtain ⟨i0, hi, hz0, hz1, hz2⟩ := info_parts Tryz.infoCell
  go_enter Tryz.func38, Tryz.ntmps38
  go_wp2_with fail
  go_loopw [1, 2] (fun v t wr => ∃ j : Nat, j ≤ 32 ∧ t = .int .i64 j ∧ wr.ownsRow w.heap.size 138 10 v j (emC j) ∧ Below w.heap.size w wr) (fun _ t _ => 32 - (intOf t).toNat)
  case atStart => exact ⟨0, by omega, rfl, World.ownsRow_nil _ _ _ _, Below.refl _ _⟩
  case round =>
    obtain ⟨j, hj, rfl, hown, hbr⟩ := hrel
    have HO : Hid (wr.ownsRow w.heap.size 138 10 u1 j (emC j)) := hown
    have HB : Hid (Below w.heap.size w wr) := hbr
    clear hown hbr
    by_cases hlt : j < 32
    · have N4 : Hid (∀ q u, ([.int .i64 j, .int .i64 0, .int .i64 0, .int .i64 0, .int .i64 0, .int .i64 0, .int .i64 0, .int .i64 0, .int .i64 0, .int .i64 0] : List Value)[q]? = some u → (wr.alloc (.cells #[.int .i64 j, .int .i64 0, .int .i64 0, .int .i64 0, .int .i64 0, .int .i64 0, .int .i64 0, .int .i64 0, .int .i64 0, .int .i64 0] 138)).cell? (Addr.add ⟨wr.heap.size, 0, none⟩ q) = some u) := fun q u hu => by
        rw [tadd, Nat.zero_add, nw]; simpa using hu
      have N1 : Hid (∀ u ∈ ([.int .i64 j, .int .i64 0, .int .i64 0, .int .i64 0, .int .i64 0, .int .i64 0, .int .i64 0, .int .i64 0, .int .i64 0, .int .i64 0] : List Value), u.oneCell' = true) := fun u hu => by
        simp only [List.mem_cons, List.not_mem_nil, or_false] at hu
        rcases hu with rfl | rfl | rfl | rfl | rfl | rfl | rfl | rfl | rfl | rfl <;> rfl
      go_wp2_with (at_builtin; refine wpList_append_own _ rfl _ _ 51 rfl w.heap.size 138 i0 _ 10 80 Tryz.underlying51 hi hz0 hz1 hz2 rfl (by decide) u1 j (emC j) rfl (HO.out.alloc _) ⟨wr.heap.size, 0, none⟩ 1 1 _ rfl rfl N4.out N1.out (by unfold maxLen; omega) (by omega) (by have := HB.out.size; simp; omega) ?_)
      intro v5 w5 hO5 hg5 _
      have O5 : Hid (w5.ownsRow w.heap.size 138 10 v5 (j + 1) (emC (j + 1))) := hO5
      have B5 : Hid (Below w.heap.size w w5) := (HB.out.alloc HB.out.size _).grown hg5 (by have := HB.out.size; simp; omega) (fun q hq => (HO.out.lt _ hq).1)
      clear hO5 hg5 N4 N1
      go_wp2_with fail
      go_roundw
      case rel => exact ⟨j + 1, by omega, by go_num, O5.out, B5.out⟩
      case measure => simp [intOf]; omega
    · obtain rfl : j = 32 := by omega
      go_wp2_with fail
      go_ret
      refine ⟨?_, HB.out⟩
      obtain ⟨_, h2⟩ := HO.out
      rcases h2 with ⟨_, h0⟩ | ⟨g, cap, cur, rfl, hg, hh, _, _, _, ht⟩
      · cases h0
      · refine ⟨g, cap, rfl, hg, cur, _, hh, fun i k hi hk => ?_⟩
        have := emC_at 32 i k hi hk
        rw [← ht, List.getElem?_take, if_pos (by omega), Array.getElem?_toList] at this
        exact this

set_option maxRecDepth 100000 in
set_option maxHeartbeats 4000000 in
theorem sameC_any (Z g ca cb : Nat) (T : Tb) (w : World) (A : Sl10 w Z T) (B : Sl10 w g T) :
    Calls Tryz.prog 53 #[.slice (some ⟨Z, 0, none⟩) 32 ca, .slice (some ⟨g, 0, none⟩) 32 cb] w fun e w' => e = .returned (.bool true) ∧ Below w.heap.size w w' := by
  have HA : Hid (Sl10 w Z T) := A
  have HB : Hid (Sl10 w g T) := B
  clear A B
  go_enter Tryz.func53, Tryz.ntmps53
  go_wp2_with fail
  go_loopw [5] (fun t wr => ∃ j : Nat, j ≤ 32 ∧ t = .int .i64 j ∧ Below w.heap.size w wr) (fun t _ => 32 - (intOf t).toNat)
  case atStart => exact ⟨0, by omega, rfl, Below.refl _ _⟩
  case round =>
    obtain ⟨j, hj, rfl, hbr⟩ := hrel
    have B1 : Hid (Below w.heap.size w wr) := hbr
    clear hbr
    by_cases hlt : j < 32
    · obtain ⟨c, hc⟩ : ∃ c, c = T j := ⟨_, rfl⟩
      have A1 := HA.out.below B1.out
      have A2 := HB.out.below B1.out
      have a0 := A1.at' (i := j) (k := 0) hlt (by omega)
      have b0 := A2.at' (i := j) (k := 0) hlt (by omega)
      have a1 := A1.at' (i := j) (k := 1) hlt (by omega)
      have b1 := A2.at' (i := j) (k := 1) hlt (by omega)
      have a2 := A1.at' (i := j) (k := 2) hlt (by omega)
      have b2 := A2.at' (i := j) (k := 2) hlt (by omega)
      have a3 := A1.at' (i := j) (k := 3) hlt (by omega)
      have b3 := A2.at' (i := j) (k := 3) hlt (by omega)
      have a4 := A1.at' (i := j) (k := 4) hlt (by omega)
      have b4 := A2.at' (i := j) (k := 4) hlt (by omega)
      have a5 := A1.at' (i := j) (k := 5) hlt (by omega)
      have b5 := A2.at' (i := j) (k := 5) hlt (by omega)
      have a6 := A1.at' (i := j) (k := 6) hlt (by omega)
      have b6 := A2.at' (i := j) (k := 6) hlt (by omega)
      have a7 := A1.at' (i := j) (k := 7) hlt (by omega)
      have b7 := A2.at' (i := j) (k := 7) hlt (by omega)
      have a8 := A1.at' (i := j) (k := 8) hlt (by omega)
      have b8 := A2.at' (i := j) (k := 8) hlt (by omega)
      have a9 := A1.at' (i := j) (k := 9) hlt (by omega)
      have b9 := A2.at' (i := j) (k := 9) hlt (by omega)
      rw [← hc] at a0 b0 a1 b1 a2 b2 a3 b3 a4 b4 a5 b5 a6 b6 a7 b7 a8 b8 a9 b9
      simp only [Ce.get, Nat.add_zero] at a0 b0 a1 b1 a2 b2 a3 b3 a4 b4 a5 b5 a6 b6 a7 b7 a8 b8 a9 b9
      have i0 : (0 : Int) ≤ (j : Int) := by omega
      have i1 : (j : Int) < 32 := by omega
      have hq : ∀ w : World, (binOp .neq 138 (.agg #[.int .i64 j, .int .i64 c.ve, .int .i64 c.pr, .int .i64 c.ia, .int .i64 c.ip, .int .i64 c.fa, .int .i64 c.fp, .int .i64 c.po, .int .i64 c.st, .int .i64 c.un]) (.agg #[.int .i64 j, .int .i64 c.ve, .int .i64 c.pr, .int .i64 c.ia, .int .i64 c.ip, .int .i64 c.fa, .int .i64 c.fp, .int .i64 c.po, .int .i64 c.st, .int .i64 c.un])).run Tryz.prog w = .ok (.bool false) w := neq_cell _ _
      have B2 : Hid (Below w.heap.size w wr.drew) := B1.out.drew
      clear hc A1 A2 HA HB
      go_wp2_with fail
      go_region
      all_goals
        go_wp2_with fail
        go_roundw
        case rel => exact ⟨j + 1, by omega, by go_num, B2.out⟩
        case measure => simp [intOf]; omega
    · have hlt' : ¬ (j : Int) < 32 := by omega
      go_wp2_with fail
      go_ret
      exact ⟨rfl, B1.out⟩
end Go.Proofs.YtifjoboaolpejaaGreatDoor

namespace Go.Proofs.YtifjoboaolpejaaGreatDoor
open Go.RowKit

/-- the document's table in memory. -/
structure RTab (w : World) (m g cap : Nat) (low : Int) (T : Tb) : Prop where
  c0 : w.cell? ⟨m, 0, none⟩ = some (.int .i64 low)
  c1 : w.cell? ⟨m, 1, none⟩ = some (.slice (some ⟨g, 0, none⟩) 32 cap)
  sl : Sl10 w g T
  ne : m ≠ g
theorem RTab.below {w w' : World} {m g cap : Nat} {low : Int} {T : Tb} (h : RTab w m g cap low T) (hb : Below w.heap.size w w') : RTab w' m g cap low T := ⟨tk hb h.c0, tk hb h.c1, h.sl.below hb, h.ne⟩
theorem RTab.chg {w w' : World} {m g cap b : Nat} {low : Int} {T : Tb} (h : RTab w m g cap low T) (hb : Chg b w w') (hm : m ≠ b) (hg : g ≠ b) : RTab w' m g cap low T := ⟨hb.keeps hm h.c0, hb.keeps hm h.c1, h.sl.chg hb hg, h.ne⟩
set_option maxRecDepth 100000 in
set_option maxHeartbeats 2000000 in
theorem newR_any (node : Nat) (w : World) (hn : node < 2) :
    Calls Tryz.prog 37 #[.int .i64 node] w fun e w' => (∃ m g cap, e = .returned (.pointer (some ⟨m, 0, none⟩)) ∧ w.heap.size ≤ m ∧ w.heap.size ≤ g ∧ RTab w' m g cap (2000 + node * 24) newT) ∧ Below w.heap.size w w' := by
  have hw1 : IntKind.i64.wrap ((node : Int) * 24) = (node : Int) * 24 := by rw [IntKind.wrap_i64]; omega
  have hw2 : IntKind.i64.wrap (2000 + (node : Int) * 24) = 2000 + (node : Int) * 24 := by rw [IntKind.wrap_i64]; omega
  go_enter Tryz.func37, Tryz.ntmps37
  go_wp2_with fail
  refine (empty_any _).mono ?_
  rintro e w1 ⟨⟨g, cap, rfl, hg, hs⟩, hb1⟩
  have HG : Hid (w.heap.size ≤ g) := hg
  have H1 : Hid (Sl10 w1 g newT) := hs
  have B1 : Hid (Below w.heap.size w w1) := hb1
  clear hg hs hb1
  go_wp2_with fail
  go_ret
  refine ⟨⟨w1.heap.size, g, cap, rfl, B1.out.size, HG.out, ?_⟩, t2 B1.out (aB _ _)⟩
  exact ⟨(nw _ _ _ _).trans rfl, (nw _ _ _ _).trans rfl, H1.out.below (aB _ _), fun e => by have := H1.out.lt; omega⟩
end Go.Proofs.YtifjoboaolpejaaGreatDoor

namespace Go.Proofs.YtifjoboaolpejaaGreatDoor
open Go.RowKit

theorem sl_put10 {w : World} {g : Nat} {T : Tb} (h : Sl10 w g T) (k : Nat) (c : Ce) (hk : k < 32) : Sl10 ((((((((((w.setCell ⟨g, k * 10, none⟩ (.int .i64 (k : Int))).setCell ⟨g, k * 10 + 1, none⟩ (.int .i64 ((T k).ve + 1))).setCell ⟨g, k * 10 + 2, none⟩ (.int .i64 c.pr)).setCell ⟨g, k * 10 + 3, none⟩ (.int .i64 c.ia)).setCell ⟨g, k * 10 + 4, none⟩ (.int .i64 c.ip)).setCell ⟨g, k * 10 + 5, none⟩ (.int .i64 c.fa)).setCell ⟨g, k * 10 + 6, none⟩ (.int .i64 c.fp)).setCell ⟨g, k * 10 + 7, none⟩ (.int .i64 c.po)).setCell ⟨g, k * 10 + 8, none⟩ (.int .i64 c.st)).setCell ⟨g, k * 10 + 9, none⟩ (.int .i64 c.un)) g (layT T k c.pr c.ia c.ip c.fa c.fp c.po c.st c.un) := by
  have h := h.slot hk
  have h := h.put (i := k) (k := 1) ((T k).ve + 1) hk (by omega) (by omega)
  have h := h.put (i := k) (k := 2) c.pr hk (by omega) (by omega)
  have h := h.put (i := k) (k := 3) c.ia hk (by omega) (by omega)
  have h := h.put (i := k) (k := 4) c.ip hk (by omega) (by omega)
  have h := h.put (i := k) (k := 5) c.fa hk (by omega) (by omega)
  have h := h.put (i := k) (k := 6) c.fp hk (by omega) (by omega)
  have h := h.put (i := k) (k := 7) c.po hk (by omega) (by omega)
  have h := h.put (i := k) (k := 8) c.st hk (by omega) (by omega)
  have h := h.put (i := k) (k := 9) c.un hk (by omega) (by omega)
  simp only [upd_same, upd_upd] at h
  exact h
theorem chg_put10 (w : World) (T : Tb) (g k : Nat) (c : Ce) : Chg g w ((((((((((w.setCell ⟨g, k * 10, none⟩ (.int .i64 (k : Int))).setCell ⟨g, k * 10 + 1, none⟩ (.int .i64 ((T k).ve + 1))).setCell ⟨g, k * 10 + 2, none⟩ (.int .i64 c.pr)).setCell ⟨g, k * 10 + 3, none⟩ (.int .i64 c.ia)).setCell ⟨g, k * 10 + 4, none⟩ (.int .i64 c.ip)).setCell ⟨g, k * 10 + 5, none⟩ (.int .i64 c.fa)).setCell ⟨g, k * 10 + 6, none⟩ (.int .i64 c.fp)).setCell ⟨g, k * 10 + 7, none⟩ (.int .i64 c.po)).setCell ⟨g, k * 10 + 8, none⟩ (.int .i64 c.st)).setCell ⟨g, k * 10 + 9, none⟩ (.int .i64 c.un)) :=
  (((((((((Chg.set g _ w _).trans (Chg.set g _ _ _)).trans (Chg.set g _ _ _)).trans (Chg.set g _ _ _)).trans (Chg.set g _ _ _)).trans (Chg.set g _ _ _)).trans (Chg.set g _ _ _)).trans (Chg.set g _ _ _)).trans (Chg.set g _ _ _)).trans (Chg.set g _ _ _)
set_option maxRecDepth 100000 in
set_option maxHeartbeats 4000000 in
theorem change_any (m g cap : Nat) (low : Int) (T : Tb) (k : Nat) (c : Ce) (w : World) (t : RTab w m g cap low T) (hk : k < 32) (hv0 : 0 ≤ (T k).ve) (hv1 : (T k).ve ≤ 1000000000) :
    Calls Tryz.prog 153 #[.pointer (some ⟨m, 0, none⟩), .int .i64 k, flowV c] w fun e w' => e = .returned (.tuple #[]) ∧ RTab w' m g cap low (layT T k c.pr c.ia c.ip c.fa c.fp c.po c.st c.un) ∧ Chg g w w' := by
  have hi0 : (0 : Int) ≤ (k : Int) := by omega
  have hi1 : (k : Int) < 32 := by omega
  have hF : flowV c = .agg #[.int .i64 c.pr, .int .i64 c.ia, .int .i64 c.ip, .int .i64 c.fa, .int .i64 c.fp, .int .i64 c.po, .int .i64 c.st, .int .i64 c.un] := rfl
  have hw : IntKind.i64.wrap ((T k).ve + 1) = (T k).ve + 1 := by rw [IntKind.wrap_i64]; omega
  rw [hF]
  have B0 : Hid (Below w.heap.size w (w.alloc (.cells #[.int .i64 c.pr, .int .i64 c.ia, .int .i64 c.ip, .int .i64 c.fa, .int .i64 c.fp, .int .i64 c.po, .int .i64 c.st, .int .i64 c.un] 136))) := aB _ _
  have F0 : Hid (FlB (w.alloc (.cells #[.int .i64 c.pr, .int .i64 c.ia, .int .i64 c.ip, .int .i64 c.fa, .int .i64 c.fp, .int .i64 c.po, .int .i64 c.st, .int .i64 c.un] 136)) w.heap.size c) := flB_new w c
  have R0 : Hid (RTab (w.alloc (.cells #[.int .i64 c.pr, .int .i64 c.ia, .int .i64 c.ip, .int .i64 c.fa, .int .i64 c.fp, .int .i64 c.po, .int .i64 c.st, .int .i64 c.un] 136)) m g cap low T) := t.below (aB _ _)
  have HG : Hid (g < w.heap.size) := t.sl.lt
  clear t hF
  go_enter Tryz.func153, Tryz.ntmps153
  go_wp2_with fail
  generalize w.alloc (.cells #[.int .i64 c.pr, .int .i64 c.ia, .int .i64 c.ip, .int .i64 c.fa, .int .i64 c.fp, .int .i64 c.po, .int .i64 c.st, .int .i64 c.un] 136) = w0 at *
  generalize hZ : w.heap.size = Z at F0 ⊢
  have m1 := R0.out.c1
  have f0 := F0.out.c0
  have f1 := F0.out.c1
  have f2 := F0.out.c2
  have f3 := F0.out.c3
  have f4 := F0.out.c4
  have f5 := F0.out.c5
  have f6 := F0.out.c6
  have f7 := F0.out.c7
  have a0 := R0.out.sl.at' (i := k) (k := 0) hk (by omega)
  have a1 := R0.out.sl.at' (i := k) (k := 1) hk (by omega)
  have a2 := R0.out.sl.at' (i := k) (k := 2) hk (by omega)
  have a3 := R0.out.sl.at' (i := k) (k := 3) hk (by omega)
  have a4 := R0.out.sl.at' (i := k) (k := 4) hk (by omega)
  have a5 := R0.out.sl.at' (i := k) (k := 5) hk (by omega)
  have a6 := R0.out.sl.at' (i := k) (k := 6) hk (by omega)
  have a7 := R0.out.sl.at' (i := k) (k := 7) hk (by omega)
  have a8 := R0.out.sl.at' (i := k) (k := 8) hk (by omega)
  have a9 := R0.out.sl.at' (i := k) (k := 9) hk (by omega)
  simp only [Ce.get, Nat.add_zero] at a0 a1 a2 a3 a4 a5 a6 a7 a8 a9
  have fz := R0.out.sl.fr
  go_region
  go_end0
  have hc := (chg_put10 w0 T g k c).then (Below.refl _ _).drew
  refine ⟨rfl, ⟨hc.keeps (by exact R0.out.ne) R0.out.c0, hc.keeps (by exact R0.out.ne) R0.out.c1, (sl_put10 R0.out.sl k c hk).below (Below.refl _ _).drew, R0.out.ne⟩, (Chg.of B0.out).trans hc⟩
end Go.Proofs.YtifjoboaolpejaaGreatDoor

namespace Go.Proofs.YtifjoboaolpejaaGreatDoor
open Go.RowKit

/-- how the document's table answers a slot. -/
def foundI : Option Nat → Int
  | some k => k
  | none => -1
structure FaB (w : World) (Z : Nat) (fa fp : Int) : Prop where
  c0 : w.cell? ⟨Z, 0, none⟩ = some (.int .i64 fa)
  c1 : w.cell? ⟨Z, 1, none⟩ = some (.int .i64 fp)
theorem FaB.below {w w' : World} {Z : Nat} {fa fp : Int} (h : FaB w Z fa fp) (hb : Below w.heap.size w w') : FaB w' Z fa fp := ⟨tk hb h.c0, tk hb h.c1⟩
set_option maxRecDepth 100000 in
set_option maxHeartbeats 4000000 in
theorem findR_any (m g cap : Nat) (low : Int) (T : Tb) (pr ia ip fa fp : Int) (w : World) (t : RTab w m g cap low T) :
    Calls Tryz.prog 75 #[.pointer (some ⟨m, 0, none⟩), .int .i64 pr, .agg #[.int .i64 ia, .int .i64 ip], .agg #[.int .i64 fa, .int .i64 fp]] w fun e w' => e = .returned (.int .i64 (foundI (fst T (findQ pr ia ip fa fp)))) ∧ Below w.heap.size w w' := by
  have B0 : Hid (Below w.heap.size w ((w.alloc (.cells #[.int .i64 ia, .int .i64 ip] 48)).alloc (.cells #[.int .i64 fa, .int .i64 fp] 48))) := t2 (aB _ _) (aB _ _)
  have F0 : Hid (EnB ((w.alloc (.cells #[.int .i64 ia, .int .i64 ip] 48)).alloc (.cells #[.int .i64 fa, .int .i64 fp] 48)) w.heap.size ia ip fa fp) := enB_new w ia ip fa fp
  have R0 : Hid (RTab ((w.alloc (.cells #[.int .i64 ia, .int .i64 ip] 48)).alloc (.cells #[.int .i64 fa, .int .i64 fp] 48)) m g cap low T) := t.below (t2 (aB _ _) (aB _ _))
  clear t
  go_enter Tryz.func75, Tryz.ntmps75
  go_wp2_with fail
  generalize (w.alloc (.cells #[.int .i64 ia, .int .i64 ip] 48)).alloc (.cells #[.int .i64 fa, .int .i64 fp] 48) = w0 at *
  generalize hZ : w.heap.size = Z at F0 ⊢
  go_loopw [9] (fun t wr => ∃ j : Nat, j ≤ 32 ∧ t = .int .i64 j ∧ (∀ i, i < j → findQ pr ia ip fa fp (T i) = false) ∧ Below w0.heap.size w0 wr) (fun t _ => 32 - (intOf t).toNat)
  case atStart => exact ⟨0, by omega, rfl, fun i hi => by omega, Below.refl _ _⟩
  case round =>
    obtain ⟨j, hj, rfl, hno, hbr⟩ := hrel
    have HN : Hid (∀ i, i < j → findQ pr ia ip fa fp (T i) = false) := hno
    have HB : Hid (Below w0.heap.size w0 wr) := hbr
    have R1 := R0.out.below hbr
    have m1 := R1.c1
    by_cases hlt : j < 32
    · obtain ⟨c, hc⟩ : ∃ c, c = T j := ⟨_, rfl⟩
      have HCj : Hid (c = T j) := hc
      have a2 := R1.sl.at' (i := j) (k := 2) hlt (by omega)
      have a3 := R1.sl.at' (i := j) (k := 3) hlt (by omega)
      have a4 := R1.sl.at' (i := j) (k := 4) hlt (by omega)
      have a5 := R1.sl.at' (i := j) (k := 5) hlt (by omega)
      have a6 := R1.sl.at' (i := j) (k := 6) hlt (by omega)
      have a7 := R1.sl.at' (i := j) (k := 7) hlt (by omega)
      have a8 := R1.sl.at' (i := j) (k := 8) hlt (by omega)
      have a9 := R1.sl.at' (i := j) (k := 9) hlt (by omega)
      rw [← hc] at a2 a3 a4 a5 a6 a7 a8 a9
      simp only [Ce.get] at a2 a3 a4 a5 a6 a7 a8 a9
      have E1 := F0.out.below hbr
      have e0 := E1.c0
      have e1 := E1.c1
      have e2 := E1.c2
      have e3 := E1.c3
      have l0 : Z < wr.heap.size := tlt e0
      have l1 : Z + 1 < wr.heap.size := tlt e2
      have B2 : Hid (∀ o : Obj, Below w0.heap.size w0 (wr.alloc o)) := fun o => t2 hbr (aB _ _)
      clear hno hbr hc R1 E1
      have i0 : (0 : Int) ≤ (j : Int) := by omega
      have i1 : (j : Int) < 32 := by omega
      have q1 : ∀ w : World, (binOp .eql 48 (.agg #[.int .i64 c.ia, .int .i64 c.ip]) (.agg #[.int .i64 ia, .int .i64 ip])).run Tryz.prog w = .ok (.bool (c.ia == ia && c.ip == ip)) w := eql_end _ _ _ _
      have q2 : ∀ w : World, (binOp .eql 48 (.agg #[.int .i64 c.fa, .int .i64 c.fp]) (.agg #[.int .i64 fa, .int .i64 fp])).run Tryz.prog w = .ok (.bool (c.fa == fa && c.fp == fp)) w := eql_end _ _ _ _
      have HQ : Hid (findQ pr ia ip fa fp c = ((c.pr != 0) && ((c.pr == pr) && ((c.ia == ia && c.ip == ip) && (c.fa == fa && c.fp == fp))))) := rfl
      generalize (c.ia == ia && c.ip == ip) = b3 at q1 HQ
      generalize (c.fa == fa && c.fp == fp) = b4 at q2 HQ
      have HNx : Hid (findQ pr ia ip fa fp c = false → ∀ i, i < j + 1 → findQ pr ia ip fa fp (T i) = false) := fun hq i hi => by
        by_cases e : i = j
        · rw [e, ← HCj.out]; exact hq
        · exact HN.out i (by omega)
      rcases h1 : (c.pr != 0) with _ | _
      · rw [h1] at HQ
        go_wp2_with fail
        go_roundw
        case rel => exact ⟨j + 1, by omega, by go_num, HNx.out (by rw [HQ.out]; rfl), B2.out _⟩
        case measure => simp [intOf]; omega
      rcases h2 : (c.pr == pr) with _ | _
      · rw [h1, h2] at HQ
        go_wp2_with fail
        go_roundw
        case rel => exact ⟨j + 1, by omega, by go_num, HNx.out (by rw [HQ.out]; rfl), B2.out _⟩
        case measure => simp [intOf]; omega
      rw [h1, h2] at HQ
      cases b3
      · go_wp2_with fail
        go_roundw
        case rel => exact ⟨j + 1, by omega, by go_num, HNx.out (by rw [HQ.out]; rfl), B2.out _⟩
        case measure => simp [intOf]; omega
      cases b4
      · go_wp2_with fail
        go_roundw
        case rel => exact ⟨j + 1, by omega, by go_num, HNx.out (by rw [HQ.out]; rfl), B2.out _⟩
        case measure => simp [intOf]; omega
      · have HF : Hid (fst T (findQ pr ia ip fa fp) = some j) := fst_some.2 ⟨hlt, by rw [← HCj.out, HQ.out]; rfl, HN.out⟩
        go_wp2_with fail
        go_ret
        refine ⟨by rw [HF.out]; rfl, t2 B0.out (B2.out _)⟩
    · obtain rfl : j = 32 := by omega
      clear hno hbr R1
      go_wp2_with fail
      go_ret
      refine ⟨?_, t2 B0.out HB.out⟩
      rw [fst_none.2 HN.out]
      rfl
set_option maxRecDepth 100000 in
set_option maxHeartbeats 4000000 in
theorem backR_any (m g cap : Nat) (low : Int) (T : Tb) (pr po fa fp : Int) (w : World) (t : RTab w m g cap low T) :
    Calls Tryz.prog 83 #[.pointer (some ⟨m, 0, none⟩), .int .i64 pr, .int .i64 po, .agg #[.int .i64 fa, .int .i64 fp]] w fun e w' => e = .returned (.int .i64 (foundI (fst T (backQ pr po fa fp)))) ∧ Below w.heap.size w w' := by
  have B0 : Hid (Below w.heap.size w (w.alloc (.cells #[.int .i64 fa, .int .i64 fp] 48))) := aB _ _
  have F0 : Hid (FaB (w.alloc (.cells #[.int .i64 fa, .int .i64 fp] 48)) w.heap.size fa fp) := ⟨(nw _ _ _ _).trans rfl, (nw _ _ _ _).trans rfl⟩
  have R0 : Hid (RTab (w.alloc (.cells #[.int .i64 fa, .int .i64 fp] 48)) m g cap low T) := t.below (aB _ _)
  clear t
  go_enter Tryz.func83, Tryz.ntmps83
  go_wp2_with fail
  generalize w.alloc (.cells #[.int .i64 fa, .int .i64 fp] 48) = w0 at *
  generalize hZ : w.heap.size = Z at F0 ⊢
  go_loopw [9] (fun t wr => ∃ j : Nat, j ≤ 32 ∧ t = .int .i64 j ∧ (∀ i, i < j → backQ pr po fa fp (T i) = false) ∧ Below w0.heap.size w0 wr) (fun t _ => 32 - (intOf t).toNat)
  case atStart => exact ⟨0, by omega, rfl, fun i hi => by omega, Below.refl _ _⟩
  case round =>
    obtain ⟨j, hj, rfl, hno, hbr⟩ := hrel
    have HN : Hid (∀ i, i < j → backQ pr po fa fp (T i) = false) := hno
    have HB : Hid (Below w0.heap.size w0 wr) := hbr
    have R1 := R0.out.below hbr
    have m1 := R1.c1
    by_cases hlt : j < 32
    · obtain ⟨c, hc⟩ : ∃ c, c = T j := ⟨_, rfl⟩
      have HCj : Hid (c = T j) := hc
      have a2 := R1.sl.at' (i := j) (k := 2) hlt (by omega)
      have a3 := R1.sl.at' (i := j) (k := 3) hlt (by omega)
      have a4 := R1.sl.at' (i := j) (k := 4) hlt (by omega)
      have a5 := R1.sl.at' (i := j) (k := 5) hlt (by omega)
      have a6 := R1.sl.at' (i := j) (k := 6) hlt (by omega)
      have a7 := R1.sl.at' (i := j) (k := 7) hlt (by omega)
      have a8 := R1.sl.at' (i := j) (k := 8) hlt (by omega)
      have a9 := R1.sl.at' (i := j) (k := 9) hlt (by omega)
      rw [← hc] at a2 a3 a4 a5 a6 a7 a8 a9
      simp only [Ce.get] at a2 a3 a4 a5 a6 a7 a8 a9
      have E1 := F0.out.below hbr
      have e0 := E1.c0
      have e1 := E1.c1
      have l0 : Z < wr.heap.size := tlt e0
      have B2 : Hid (∀ o : Obj, Below w0.heap.size w0 (wr.alloc o)) := fun o => t2 hbr (aB _ _)
      clear hno hbr hc R1 E1
      have i0 : (0 : Int) ≤ (j : Int) := by omega
      have i1 : (j : Int) < 32 := by omega
      have q2 : ∀ w : World, (binOp .eql 48 (.agg #[.int .i64 c.fa, .int .i64 c.fp]) (.agg #[.int .i64 fa, .int .i64 fp])).run Tryz.prog w = .ok (.bool (c.fa == fa && c.fp == fp)) w := eql_end _ _ _ _
      have HQ : Hid (backQ pr po fa fp c = ((c.pr != 0) && ((c.pr == pr) && ((c.po == po) && (c.fa == fa && c.fp == fp))))) := rfl
      generalize (c.fa == fa && c.fp == fp) = b4 at q2 HQ
      have HNx : Hid (backQ pr po fa fp c = false → ∀ i, i < j + 1 → backQ pr po fa fp (T i) = false) := fun hq i hi => by
        by_cases e : i = j
        · rw [e, ← HCj.out]; exact hq
        · exact HN.out i (by omega)
      rcases h1 : (c.pr != 0) with _ | _
      · rw [h1] at HQ
        go_wp2_with fail
        go_roundw
        case rel => exact ⟨j + 1, by omega, by go_num, HNx.out (by rw [HQ.out]; rfl), B2.out _⟩
        case measure => simp [intOf]; omega
      rcases h2 : (c.pr == pr) with _ | _
      · rw [h1, h2] at HQ
        go_wp2_with fail
        go_roundw
        case rel => exact ⟨j + 1, by omega, by go_num, HNx.out (by rw [HQ.out]; rfl), B2.out _⟩
        case measure => simp [intOf]; omega
      rcases h3 : (c.po == po) with _ | _
      · rw [h1, h2, h3] at HQ
        go_wp2_with fail
        go_roundw
        case rel => exact ⟨j + 1, by omega, by go_num, HNx.out (by rw [HQ.out]; rfl), B2.out _⟩
        case measure => simp [intOf]; omega
      rw [h1, h2, h3] at HQ
      cases b4
      · go_wp2_with fail
        go_roundw
        case rel => exact ⟨j + 1, by omega, by go_num, HNx.out (by rw [HQ.out]; rfl), B2.out _⟩
        case measure => simp [intOf]; omega
      · have HF : Hid (fst T (backQ pr po fa fp) = some j) := fst_some.2 ⟨hlt, by rw [← HCj.out, HQ.out]; rfl, HN.out⟩
        go_wp2_with fail
        go_ret
        refine ⟨by rw [HF.out]; rfl, t2 B0.out (B2.out _)⟩
    · obtain rfl : j = 32 := by omega
      clear hno hbr R1
      go_wp2_with fail
      go_ret
      refine ⟨?_, t2 B0.out HB.out⟩
      rw [fst_none.2 HN.out]
      rfl
end Go.Proofs.YtifjoboaolpejaaGreatDoor

namespace Go.Proofs.YtifjoboaolpejaaGreatDoor
open Go.RowKit

set_option maxRecDepth 100000 in
set_option maxHeartbeats 2000000 in
theorem flowE_any (m g cap : Nat) (low : Int) (T : Tb) (k : Int) (w : World) (t : RTab w m g cap low T) :
    Calls Tryz.prog 152 #[.pointer (some ⟨m, 0, none⟩), .int .i64 k] w fun e w' => e = .returned (.int .i64 (slotE T k : Nat)) ∧ w' = w := by
  have m1 := t.c1
  by_cases hk : k < 0 ∨ 32 ≤ k
  · have he : Hid (slotE T k = 2) := by show _ = _; unfold slotE; rw [if_pos hk]
    clear t
    by_cases h0 : k < 0
    · clear hk
      go_enter Tryz.func152, Tryz.ntmps152
      go_wp2_with fail
      go_ret
      exact ⟨by rw [he.out]; rfl, rfl⟩
    · have h1 : 32 ≤ k := by omega
      clear hk
      go_enter Tryz.func152, Tryz.ntmps152
      go_wp2_with fail
      go_ret
      exact ⟨by rw [he.out]; rfl, rfl⟩
  · have h0 : ¬ k < 0 := by omega
    have h1 : ¬ 32 ≤ k := by omega
    obtain ⟨j, rfl⟩ : ∃ j : Nat, k = j := ⟨k.toNat, by omega⟩
    have hj : j < 32 := by omega
    have i0 : (0 : Int) ≤ (j : Int) := by omega
    have i1 : (j : Int) < 32 := by omega
    obtain ⟨c, hc⟩ : ∃ c, c = T j := ⟨_, rfl⟩
    have HE : Hid (slotE T (j : Int) = if c.pr = 0 then 4 else 0) := by
      show _ = _
      unfold slotE
      rw [if_neg hk, hc]
      rfl
    have a2 := t.sl.at' (i := j) (k := 2) hj (by omega)
    rw [← hc] at a2
    simp only [Ce.get] at a2
    clear hk hc t
    by_cases hp : c.pr = 0
    · have hpb : (c.pr == 0) = true := beq_iff_eq.2 hp
      rw [if_pos hp] at HE
      clear hp
      go_enter Tryz.func152, Tryz.ntmps152
      go_wp2_with fail
      go_ret
      exact ⟨by rw [HE.out]; rfl, rfl⟩
    · have hpb : (c.pr == 0) = false := beq_eq_false_iff_ne.2 hp
      rw [if_neg hp] at HE
      clear hp
      go_enter Tryz.func152, Tryz.ntmps152
      go_wp2_with fail
      go_ret
      exact ⟨by rw [HE.out]; rfl, rfl⟩
set_option maxRecDepth 100000 in
set_option maxHeartbeats 2000000 in
theorem dropR_any (m g cap : Nat) (low : Int) (T : Tb) (k : Int) (n : Nat) (w : World) (t : RTab w m g cap low T) (hv : Vers T n) (hn : n ≤ 1000000000) :
    Calls Tryz.prog 122 #[.pointer (some ⟨m, 0, none⟩), .int .i64 k] w fun e w' => e = .returned (.int .i64 (slotE T k : Nat)) ∧ RTab w' m g cap low (dropT T k) ∧ Chg g w w' := by
  have HT : Hid (RTab w m g cap low T) := t
  have HV : Hid (Vers T n) := hv
  clear t hv
  go_enter Tryz.func122, Tryz.ntmps122
  go_wp2_with fail
  refine (flowE_any m g cap low T k _ HT.out).mono ?_
  rintro e w1 ⟨rfl, rfl⟩
  by_cases he : slotE T k = 0
  · have HE : Hid (slotE T k = 0) := he
    obtain ⟨h0, h1, _⟩ := slotE_ok he
    obtain ⟨j, rfl⟩ : ∃ j : Nat, k = j := ⟨k.toNat, by omega⟩
    have hj : j < 32 := by omega
    rw [he]
    clear he
    go_wp2_with fail
    have hve := HV.out j hj
    refine (change_any m g cap low T j noC _ HT.out hj hve.1 (by omega)).mono ?_
    rintro e w2 ⟨rfl, t2', c2⟩
    have T2 : Hid (RTab w2 m g cap low (dropT T j)) := by
      show RTab w2 m g cap low (dropT T j)
      unfold dropT
      rw [if_pos HE.out, Int.toNat_natCast]
      exact t2'
    have C2 : Hid (Chg g w1 w2) := c2
    clear t2' c2 hve
    go_wp2_with fail
    go_ret
    exact ⟨by rw [HE.out]; rfl, T2.out, C2.out⟩
  · have HE : Hid (slotE T k ≠ 0) := he
    obtain ⟨q, hq⟩ : ∃ q : Nat, slotE T k = q := ⟨_, rfl⟩
    rw [hq] at he ⊢
    have hq0 : ((q : Int) == 0) = false := beq_eq_false_iff_ne.2 (by omega)
    have HQ : Hid (slotE T k = q) := hq
    clear he hq
    go_wp2_with fail
    go_ret
    refine ⟨by rw [HQ.out]; rfl, ?_, Chg.refl _ _⟩
    unfold dropT
    rw [if_neg HE.out]
    exact HT.out
set_option maxRecDepth 100000 in
set_option maxHeartbeats 4000000 in
theorem setR_any (m g cap : Nat) (low : Int) (T : Tb) (k st un : Int) (n : Nat) (w : World) (t : RTab w m g cap low T) (hv : Vers T n) (hn : n ≤ 1000000000) :
    Calls Tryz.prog 123 #[.pointer (some ⟨m, 0, none⟩), .int .i64 k, .int .i64 st, .int .i64 un] w fun e w' => e = .returned (.int .i64 (slotE T k : Nat)) ∧ RTab w' m g cap low (setT T k st un) ∧ Chg g w w' := by
  have HT : Hid (RTab w m g cap low T) := t
  have HV : Hid (Vers T n) := hv
  have m1 := t.c1
  clear t hv
  go_enter Tryz.func123, Tryz.ntmps123
  go_wp2_with fail
  refine (flowE_any m g cap low T k _ HT.out).mono ?_
  rintro e w1 ⟨rfl, rfl⟩
  by_cases he : slotE T k = 0
  · have HE : Hid (slotE T k = 0) := he
    obtain ⟨h0, h1, _⟩ := slotE_ok he
    obtain ⟨j, rfl⟩ : ∃ j : Nat, k = j := ⟨k.toNat, by omega⟩
    have hj : j < 32 := by omega
    rw [he]
    clear he
    obtain ⟨c, hc⟩ : ∃ c, c = T j := ⟨_, rfl⟩
    have HC : Hid (c = T j) := hc
    have a2 := HT.out.sl.at' (i := j) (k := 2) hj (by omega)
    have a3 := HT.out.sl.at' (i := j) (k := 3) hj (by omega)
    have a4 := HT.out.sl.at' (i := j) (k := 4) hj (by omega)
    have a5 := HT.out.sl.at' (i := j) (k := 5) hj (by omega)
    have a6 := HT.out.sl.at' (i := j) (k := 6) hj (by omega)
    have a7 := HT.out.sl.at' (i := j) (k := 7) hj (by omega)
    have a8 := HT.out.sl.at' (i := j) (k := 8) hj (by omega)
    have a9 := HT.out.sl.at' (i := j) (k := 9) hj (by omega)
    rw [← hc] at a2 a3 a4 a5 a6 a7 a8 a9
    simp only [Ce.get] at a2 a3 a4 a5 a6 a7 a8 a9
    clear hc
    go_wp2_with fail
    clear a2 a3 a4 a5 a6 a7 a8 a9 m1
    have hve := HV.out j hj
    refine (change_any m g cap low T j ⟨0, c.pr, c.ia, c.ip, c.fa, c.fp, c.po, st, un⟩ _ (HT.out.below (aB _ _)) hj hve.1 (by omega)).mono ?_
    rintro e w2 ⟨rfl, t2', c2⟩
    have T2 : Hid (RTab w2 m g cap low (setT T j st un)) := by
      show RTab w2 m g cap low (setT T j st un)
      unfold setT
      rw [if_pos HE.out, Int.toNat_natCast]
      rw [HC.out] at t2'
      exact t2'
    have C2 : Hid (Chg g w1 w2) := (Chg.of (aB _ _)).trans c2
    clear t2' c2 hve
    go_wp2_with fail
    go_ret
    exact ⟨by rw [HE.out]; rfl, T2.out, C2.out⟩
  · have HE : Hid (slotE T k ≠ 0) := he
    obtain ⟨q, hq⟩ : ∃ q : Nat, slotE T k = q := ⟨_, rfl⟩
    rw [hq] at he ⊢
    have hq0 : ((q : Int) == 0) = false := beq_eq_false_iff_ne.2 (by omega)
    have HQ : Hid (slotE T k = q) := hq
    clear he hq
    go_wp2_with fail
    go_ret
    refine ⟨by rw [HQ.out]; rfl, ?_, Chg.refl _ _⟩
    unfold setT
    rw [if_neg HE.out]
    exact HT.out
/-- what the document's lay makes. -/
def layRT (T : Tb) (c : Ce) : Nat × Nat × Tb :=
  match fst T freeQ with
  | none => (0, 6, T)
  | some k => (k, 0, layT T k c.pr c.ia c.ip c.fa c.fp c.po c.st c.un)
set_option maxRecDepth 100000 in
set_option maxHeartbeats 4000000 in
theorem layR_any (m g cap : Nat) (low : Int) (T : Tb) (c : Ce) (n : Nat) (w : World) (t : RTab w m g cap low T) (hv : Vers T n) (hn : n ≤ 1000000000) :
    Calls Tryz.prog 124 #[.pointer (some ⟨m, 0, none⟩), flowV c] w fun e w' => e = .returned (.tuple #[.int .i64 ((layRT T c).1 : Nat), .int .i64 ((layRT T c).2.1 : Nat)]) ∧ RTab w' m g cap low (layRT T c).2.2 ∧ Chg g w w' := by
  have hF : flowV c = .agg #[.int .i64 c.pr, .int .i64 c.ia, .int .i64 c.ip, .int .i64 c.fa, .int .i64 c.fp, .int .i64 c.po, .int .i64 c.st, .int .i64 c.un] := rfl
  rw [hF]
  have B0 : Hid (Below w.heap.size w (w.alloc (.cells #[.int .i64 c.pr, .int .i64 c.ia, .int .i64 c.ip, .int .i64 c.fa, .int .i64 c.fp, .int .i64 c.po, .int .i64 c.st, .int .i64 c.un] 136))) := aB _ _
  have F0 : Hid (FlB (w.alloc (.cells #[.int .i64 c.pr, .int .i64 c.ia, .int .i64 c.ip, .int .i64 c.fa, .int .i64 c.fp, .int .i64 c.po, .int .i64 c.st, .int .i64 c.un] 136)) w.heap.size c) := flB_new w c
  have R0 : Hid (RTab (w.alloc (.cells #[.int .i64 c.pr, .int .i64 c.ia, .int .i64 c.ip, .int .i64 c.fa, .int .i64 c.fp, .int .i64 c.po, .int .i64 c.st, .int .i64 c.un] 136)) m g cap low T) := t.below (aB _ _)
  have HV : Hid (Vers T n) := hv
  clear t hF hv
  go_enter Tryz.func124, Tryz.ntmps124
  go_wp2_with fail
  generalize w.alloc (.cells #[.int .i64 c.pr, .int .i64 c.ia, .int .i64 c.ip, .int .i64 c.fa, .int .i64 c.fp, .int .i64 c.po, .int .i64 c.st, .int .i64 c.un] 136) = w0 at *
  generalize hZ : w.heap.size = Z at F0 ⊢
  go_loopw [6] (fun t wr => ∃ j : Nat, j ≤ 32 ∧ t = .int .i64 j ∧ (∀ i, i < j → freeQ (T i) = false) ∧ wr = w0) (fun t _ => 32 - (intOf t).toNat)
  case atStart => exact ⟨0, by omega, rfl, fun i hi => by omega, rfl⟩
  case round =>
    obtain ⟨j, hj, rfl, hno, rfl⟩ := hrel
    have HN : Hid (∀ i, i < j → freeQ (T i) = false) := hno
    have m1 := R0.out.c1
    clear hno
    by_cases hlt : j < 32
    · have a2 := R0.out.sl.at' (i := j) (k := 2) hlt (by omega)
      simp only [Ce.get] at a2
      have i0 : (0 : Int) ≤ (j : Int) := by omega
      have i1 : (j : Int) < 32 := by omega
      rcases hq : ((T j).pr == 0) with _ | _
      · have HN2 : Hid (∀ i, i < j + 1 → freeQ (T i) = false) := fun i hi => by
          by_cases e : i = j
          · rw [e]; exact hq
          · exact HN.out i (by omega)
        go_wp2_with fail
        go_roundw
        case rel => exact ⟨j + 1, by omega, by go_num, HN2.out, by first | trivial | rfl⟩
        case measure => simp [intOf]; omega
      · have HF : Hid (layRT T c = (j, 0, layT T j c.pr c.ia c.ip c.fa c.fp c.po c.st c.un)) := by
          show _ = _
          unfold layRT
          rw [fst_some.2 ⟨hlt, hq, HN.out⟩]
        have f0 := F0.out.c0
        have f1 := F0.out.c1
        have f2 := F0.out.c2
        have f3 := F0.out.c3
        have f4 := F0.out.c4
        have f5 := F0.out.c5
        have f6 := F0.out.c6
        have f7 := F0.out.c7
        go_wp2_with fail
        clear f0 f1 f2 f3 f4 f5 f6 f7 a2 m1 hq
        have hve := HV.out j hlt
        refine (change_any m g cap low T j c _ R0.out hlt hve.1 (by omega)).mono ?_
        rintro e w2 ⟨rfl, t2', c2⟩
        have T2 : Hid (RTab w2 m g cap low (layT T j c.pr c.ia c.ip c.fa c.fp c.po c.st c.un)) := t2'
        have C2 : Hid (Chg g w w2) := (Chg.of B0.out).trans c2
        clear t2' c2 hve
        go_wp2_with fail
        go_ret2
        rw [HF.out]
        exact ⟨rfl, T2.out, C2.out⟩
    · obtain rfl : j = 32 := by omega
      have HF : Hid (layRT T c = (0, 6, T)) := by
        show _ = _
        unfold layRT
        rw [fst_none.2 HN.out]
      go_wp2_with fail
      go_ret2
      rw [HF.out]
      exact ⟨rfl, R0.out, Chg.of B0.out⟩
end Go.Proofs.YtifjoboaolpejaaGreatDoor

namespace Go.Proofs.YtifjoboaolpejaaGreatDoor
open Go.RowKit

theorem foundI_ge (o : Option Nat) : decide (foundI o ≥ 0) = o.isSome := by
  cases o with
  | none => rfl
  | some k => simp [foundI]
/-- what Add's loop knows in a round. -/
structure AdR (w0 W : World) (m g cap Z : Nat) (low : Int) (T : Tb) (ia ip fa fp : Int) : Prop where
  r : RTab W m g cap low T
  e : EnB W Z ia ip fa fp
  b : Below w0.heap.size w0 W
theorem AdR.below {w0 W W' : World} {m g cap Z : Nat} {low : Int} {T : Tb} {ia ip fa fp : Int} (h : AdR w0 W m g cap Z low T ia ip fa fp) (hb : Below W.heap.size W W') : AdR w0 W' m g cap Z low T ia ip fa fp := ⟨h.r.below hb, h.e.below hb, t2 h.b hb⟩
theorem AdR.all {w0 W : World} {m g cap Z : Nat} {low : Int} {T : Tb} {ia ip fa fp : Int} (h : AdR w0 W m g cap Z low T ia ip fa fp) :
    W.cell? ⟨m, 0, none⟩ = some (.int .i64 low) ∧ W.cell? ⟨Z + 1, 0, none⟩ = some (.int .i64 fa) ∧ W.cell? ⟨Z + 1, 1, none⟩ = some (.int .i64 fp) ∧ AdR w0 W m g cap Z low T ia ip fa fp := ⟨h.r.c0, h.e.c2, h.e.c3, h⟩
theorem AdR.back {w0 W : World} {m g cap Z : Nat} {low : Int} {T : Tb} {ia ip fa fp : Int} (h : AdR w0 W m g cap Z low T ia ip fa fp) (pr po : Int) :
    Calls Tryz.prog 83 #[.pointer (some ⟨m, 0, none⟩), .int .i64 pr, .int .i64 po, .agg #[.int .i64 fa, .int .i64 fp]] W fun e w' => e = .returned (.int .i64 (foundI (fst T (backQ pr po fa fp)))) ∧ AdR w0 w' m g cap Z low T ia ip fa fp := by
  refine (backR_any m g cap low T pr po fa fp W h.r).mono ?_
  rintro e w' ⟨rfl, hb⟩
  exact ⟨rfl, h.below hb⟩
set_option maxRecDepth 100000 in
set_option maxHeartbeats 4000000 in
theorem addR_any (m g cap : Nat) (low : Int) (T : Tb) (pr ia ip fa fp st un : Int) (n : Nat) (w : World) (t : RTab w m g cap low T) (hl0 : 0 ≤ low) (hl1 : low ≤ 100000) (hv : Vers T n) (hn : n ≤ 1000000000) :
    Calls Tryz.prog 79 #[.pointer (some ⟨m, 0, none⟩), .int .i64 pr, .agg #[.int .i64 ia, .int .i64 ip], .agg #[.int .i64 fa, .int .i64 fp], .int .i64 st, .int .i64 un] w fun e w' => e = .returned (.tuple #[.int .i64 ((addT T low pr ia ip fa fp st un).1 : Nat), .int .i64 ((addT T low pr ia ip fa fp st un).2.1 : Nat)]) ∧ RTab w' m g cap low (addT T low pr ia ip fa fp st un).2.2 ∧ Chg g w w' := by
  have B0 : Hid (Below w.heap.size w ((w.alloc (.cells #[.int .i64 ia, .int .i64 ip] 48)).alloc (.cells #[.int .i64 fa, .int .i64 fp] 48))) := t2 (aB _ _) (aB _ _)
  have F0 : Hid (EnB ((w.alloc (.cells #[.int .i64 ia, .int .i64 ip] 48)).alloc (.cells #[.int .i64 fa, .int .i64 fp] 48)) w.heap.size ia ip fa fp) := enB_new w ia ip fa fp
  have R0 : Hid (RTab ((w.alloc (.cells #[.int .i64 ia, .int .i64 ip] 48)).alloc (.cells #[.int .i64 fa, .int .i64 fp] 48)) m g cap low T) := t.below (t2 (aB _ _) (aB _ _))
  have HV : Hid (Vers T n) := hv
  clear t hv
  go_enter Tryz.func79, Tryz.ntmps79
  go_wp2_with fail
  generalize (w.alloc (.cells #[.int .i64 ia, .int .i64 ip] 48)).alloc (.cells #[.int .i64 fa, .int .i64 fp] 48) = w0 at *
  generalize hZ : w.heap.size = Z at F0 ⊢
  refine (findR_any m g cap low T pr ia ip fa fp w0 R0.out).mono ?_
  rintro e w1 ⟨rfl, hb1⟩
  have A1 : Hid (AdR w w1 m g cap Z low T ia ip fa fp) := ⟨R0.out.below hb1, F0.out.below hb1, t2 B0.out hb1⟩
  clear hb1 B0 F0 R0
  rcases hf : fst T (findQ pr ia ip fa fp) with _ | k0
  · have HF : Hid (fst T (findQ pr ia ip fa fp) = none) := hf
    simp only [foundI]
    clear hf
    go_wp2_with fail
    go_loopw [14] (fun t wr => ∃ j : Nat, j ≤ 24 ∧ t = .int .i64 j ∧ (∀ i, i < j → (fst T (backQ pr (low + (i : Nat)) fa fp)).isSome = true) ∧ AdR w wr m g cap Z low T ia ip fa fp) (fun t _ => 24 - (intOf t).toNat)
    case atStart => exact ⟨0, by omega, rfl, fun i hi => by omega, A1.out⟩
    case round =>
      obtain ⟨j, hj, rfl, hno, ha⟩ := hrel
      have HN : Hid (∀ i, i < j → (fst T (backQ pr (low + (i : Nat)) fa fp)).isSome = true) := hno
      have HA : Hid (AdR w wr.drew m g cap Z low T ia ip fa fp) := ha.below (Below.refl _ _).drew
      have HA0 : Hid (AdR w wr m g cap Z low T ia ip fa fp) := ha
      have c0 := ha.r.c0
      have e2 := ha.e.c2
      have e3 := ha.e.c3
      clear hno ha A1
      by_cases hlt : j < 24
      · have hw : IntKind.i64.wrap (low + (j : Int)) = low + (j : Int) := by rw [IntKind.wrap_i64]; omega
        go_wp2_with fail
        go_region_held3 (fun w' => w'.cell? ⟨m, 0, none⟩ = some (.int .i64 low) ∧ w'.cell? ⟨Z + 1, 0, none⟩ = some (.int .i64 fa) ∧ w'.cell? ⟨Z + 1, 1, none⟩ = some (.int .i64 fp) ∧ AdR w w' m g cap Z low T ia ip fa fp) (first | assumption | exact HA.out.all | exact AdR.all (by assumption)) (first | (go_at_call 83; refine (AdR.back (by assumption) pr (low + j)).mono ?_; rintro e w2 ⟨rfl, A2⟩))
        rename_i hheld
        clear hheld c0 e2 e3 HA HA0
        have HA2 : Hid (AdR w w2 m g cap Z low T ia ip fa fp) := A2
        have HA3 : Hid (AdR w w2.drew m g cap Z low T ia ip fa fp) := A2.below (Below.refl _ _).drew
        clear A2
        rcases hq : fst T (backQ pr (low + (j : Nat)) fa fp) with _ | k
        · have HP : Hid (addT T low pr ia ip fa fp st un = layRT T ⟨0, pr, ia, ip, fa, fp, low + j, st, un⟩) := by
            show _ = _
            have hfp : freeP T low pr fa fp = some j := freeP_some.2 ⟨hlt, hq, HN.out⟩
            unfold addT layRT
            rw [HF.out, hfp]
            cases fst T freeQ <;> rfl
          simp only [foundI]
          clear hq
          have c0 := HA2.out.r.c0
          have e0 := HA2.out.e.c0
          have e1 := HA2.out.e.c1
          have e2 := HA2.out.e.c2
          have e3 := HA2.out.e.c3
          go_wp2_with fail
          go_region_with (first | (go_at_call 124; refine (layR_any m g cap low T ⟨0, pr, ia, ip, fa, fp, low + j, st, un⟩ n _ ?_ HV.out hn).mono ?_; (first | exact HA3.out.r | exact HA2.out.r); rintro e w3 ⟨rfl, t3, k3⟩))
          all_goals
            have T3 : Hid (RTab w3 m g cap low (layRT T ⟨0, pr, ia, ip, fa, fp, low + j, st, un⟩).2.2) := t3
            have C3 : Hid (Chg g w w3) := by first | exact (Chg.of HA3.out.b).trans k3 | exact (Chg.of HA2.out.b).trans k3
            clear t3 k3
            generalize layRT T ⟨0, pr, ia, ip, fa, fp, low + j, st, un⟩ = R at *
            go_wp2_with fail
            go_ret2
            rw [HP.out]
            exact ⟨rfl, T3.out, C3.out⟩
        · have HN2 : Hid (∀ i, i < j + 1 → (fst T (backQ pr (low + (i : Nat)) fa fp)).isSome = true) := fun i hi => by
            by_cases e : i = j
            · rw [e, hq]; rfl
            · exact HN.out i (by omega)
          simp only [foundI]
          have hk : ¬ ((k : Int) < 0) := by omega
          clear hq
          go_wp2_with fail
          go_roundw
          case rel => exact ⟨j + 1, by omega, by go_num, HN2.out, HA2.out⟩
          case measure => simp [intOf]; omega
      · obtain rfl : j = 24 := by omega
        have HP : Hid (addT T low pr ia ip fa fp st un = (0, 6, T)) := by
          show _ = _
          have hfp : freeP T low pr fa fp = none := freeP_none.2 HN.out
          unfold addT
          rw [HF.out, hfp]
          cases fst T freeQ <;> rfl
        go_wp2_with fail
        go_ret2
        rw [HP.out]
        exact ⟨rfl, HA0.out.r, Chg.of HA0.out.b⟩
  · have HP : Hid (addT T low pr ia ip fa fp st un = (0, 5, T)) := by show _ = _; unfold addT; rw [hf]
    simp only [foundI]
    have hk : ¬ ((k0 : Int) < 0) := by omega
    have hk2 : (0 : Int) ≤ (k0 : Int) := by omega
    clear hf
    go_wp2_with fail
    go_ret2
    rw [HP.out]
    exact ⟨rfl, A1.out.r, Chg.of A1.out.b⟩
end Go.Proofs.YtifjoboaolpejaaGreatDoor

namespace Go.Proofs.YtifjoboaolpejaaGreatDoor
open Go.RowKit

set_option maxRecDepth 100000 in
set_option maxHeartbeats 4000000 in
theorem putR_any (m g cap : Nat) (low : Int) (T : Tb) (c : Ce) (n : Nat) (w : World) (t : RTab w m g cap low T) (hv : Vers T n) (hn : n ≤ 1000000000) :
    Calls Tryz.prog 94 #[.pointer (some ⟨m, 0, none⟩), flowV c] w fun e w' => e = .returned (.tuple #[.int .i64 ((putT T c.pr c.ia c.ip c.fa c.fp c.po c.st c.un).1 : Nat), .int .i64 ((putT T c.pr c.ia c.ip c.fa c.fp c.po c.st c.un).2.1 : Nat)]) ∧ RTab w' m g cap low (putT T c.pr c.ia c.ip c.fa c.fp c.po c.st c.un).2.2 ∧ Chg g w w' := by
  have hF : flowV c = .agg #[.int .i64 c.pr, .int .i64 c.ia, .int .i64 c.ip, .int .i64 c.fa, .int .i64 c.fp, .int .i64 c.po, .int .i64 c.st, .int .i64 c.un] := rfl
  rw [hF]
  have B0 : Hid (Below w.heap.size w (w.alloc (.cells #[.int .i64 c.pr, .int .i64 c.ia, .int .i64 c.ip, .int .i64 c.fa, .int .i64 c.fp, .int .i64 c.po, .int .i64 c.st, .int .i64 c.un] 136))) := aB _ _
  have F0 : Hid (FlB (w.alloc (.cells #[.int .i64 c.pr, .int .i64 c.ia, .int .i64 c.ip, .int .i64 c.fa, .int .i64 c.fp, .int .i64 c.po, .int .i64 c.st, .int .i64 c.un] 136)) w.heap.size c) := flB_new w c
  have R0 : Hid (RTab (w.alloc (.cells #[.int .i64 c.pr, .int .i64 c.ia, .int .i64 c.ip, .int .i64 c.fa, .int .i64 c.fp, .int .i64 c.po, .int .i64 c.st, .int .i64 c.un] 136)) m g cap low T) := t.below (aB _ _)
  have HV : Hid (Vers T n) := hv
  clear t hF hv
  go_enter Tryz.func94, Tryz.ntmps94
  go_wp2_with fail
  generalize w.alloc (.cells #[.int .i64 c.pr, .int .i64 c.ia, .int .i64 c.ip, .int .i64 c.fa, .int .i64 c.fp, .int .i64 c.po, .int .i64 c.st, .int .i64 c.un] 136) = w0 at *
  generalize hZ : w.heap.size = Z at F0 ⊢
  refine (findR_any m g cap low T c.pr c.ia c.ip c.fa c.fp _ R0.out).mono ?_
  rintro e w1 ⟨rfl, hb1⟩
  have B1 : Hid (Below w.heap.size w w1) := t2 B0.out hb1
  have F1 : Hid (FlB w1 Z c) := F0.out.below hb1
  have R1 : Hid (RTab w1 m g cap low T) := R0.out.below hb1
  clear hb1 B0 F0 R0
  rcases hf : fst T (findQ c.pr c.ia c.ip c.fa c.fp) with _ | k0
  · have HF : Hid (fst T (findQ c.pr c.ia c.ip c.fa c.fp) = none) := hf
    simp only [foundI]
    clear hf
    have f0 := F1.out.c0
    have f3 := F1.out.c3
    have f4 := F1.out.c4
    have f5 := F1.out.c5
    go_wp2_with fail
    clear f0 f3 f4 f5
    refine (backR_any m g cap low T c.pr c.po c.fa c.fp _ R1.out).mono ?_
    rintro e w2 ⟨rfl, hb2⟩
    have B2 : Hid (Below w.heap.size w w2) := t2 B1.out hb2
    have F2 : Hid (FlB w2 Z c) := F1.out.below hb2
    have R2 : Hid (RTab w2 m g cap low T) := R1.out.below hb2
    clear hb2 B1 F1 R1
    rcases hf : fst T (backQ c.pr c.po c.fa c.fp) with _ | k0
    · have HP : Hid (putT T c.pr c.ia c.ip c.fa c.fp c.po c.st c.un = layRT T c) := by show _ = _; unfold putT layRT; rw [HF.out, hf]; rfl
      simp only [foundI]
      clear hf
      have f0 := F2.out.c0
      have f1 := F2.out.c1
      have f2 := F2.out.c2
      have f3 := F2.out.c3
      have f4 := F2.out.c4
      have f5 := F2.out.c5
      have f6 := F2.out.c6
      have f7 := F2.out.c7
      go_wp2_with fail
      clear f0 f1 f2 f3 f4 f5 f6 f7
      refine (layR_any m g cap low T c n _ R2.out HV.out hn).mono ?_
      rintro e w3 ⟨rfl, t3, c3⟩
      have T3 : Hid (RTab w3 m g cap low (layRT T c).2.2) := t3
      have C3 : Hid (Chg g w w3) := (Chg.of B2.out).trans c3
      clear t3 c3
      go_wp2_with fail
      go_ret2
      rw [HP.out]
      exact ⟨rfl, T3.out, C3.out⟩
    · have HP : Hid (putT T c.pr c.ia c.ip c.fa c.fp c.po c.st c.un = (0, 5, T)) := by show _ = _; unfold putT; rw [HF.out, hf]
      simp only [foundI]
      have hk : ¬ ((k0 : Int) < 0) := by omega
      have hk2 : (0 : Int) ≤ (k0 : Int) := by omega
      clear hf
      go_wp2_with fail
      go_ret2
      rw [HP.out]
      exact ⟨rfl, R2.out, Chg.of B2.out⟩
  · have HP : Hid (putT T c.pr c.ia c.ip c.fa c.fp c.po c.st c.un = (0, 5, T)) := by show _ = _; unfold putT; rw [hf]
    simp only [foundI]
    have hk : ¬ ((k0 : Int) < 0) := by omega
    have hk2 : (0 : Int) ≤ (k0 : Int) := by omega
    clear hf
    go_wp2_with fail
    go_ret2
    rw [HP.out]
    exact ⟨rfl, R1.out, Chg.of B1.out⟩
end Go.Proofs.YtifjoboaolpejaaGreatDoor

namespace Go.Proofs.YtifjoboaolpejaaGreatDoor
open Go.RowKit

theorem rtab_grown {m g cap N : Nat} {low : Int} {T : Tb} {u u' : World} {row : Option Nat} (h : RTab u m g cap low T) (hg : u.grownBy u' row) (hr : ∀ k, row = some k → N ≤ k) (hm : m < N) (hgn : g < N) : RTab u' m g cap low T := by
  have em : u'.heap[m]? = u.heap[m]? := hg.block m (tlt h.c0) (fun e => by have := hr m e.symm; omega)
  have eg : u'.heap[g]? = u.heap[g]? := hg.block g h.sl.lt (fun e => by have := hr g e.symm; omega)
  refine ⟨?_, ?_, ?_, h.ne⟩
  · rw [World.cell?_of_block (w := u) em]; exact h.c0
  · rw [World.cell?_of_block (w := u) em]; exact h.c1
  · obtain ⟨cs, ty, h1, h2⟩ := h.sl
    exact ⟨cs, ty, by rw [eg]; exact h1, h2⟩
set_option maxRecDepth 100000 in
set_option maxHeartbeats 4000000 in
theorem expireR_any (m g cap : Nat) (low : Int) (T : Tb) (now : Int) (n : Nat) (w : World) (t : RTab w m g cap low T) (hv : Vers T n) (hn : n ≤ 100000000) :
    Calls Tryz.prog 89 #[.pointer (some ⟨m, 0, none⟩), .int .i64 now] w fun e w' => ∃ v, e = .returned v ∧ IntS w' v (expL T now 32) ∧ RTab w' m g cap low (expT T now 32) ∧ Chg g w w' := by
  obtain ⟨i0, hi, hz0, hz1, hz2⟩ := info_parts Tryz.infoInt
  have HT : Hid (RTab w m g cap low T) := t
  have HV : Hid (Vers T n) := hv
  have HML : Hid (m < w.heap.size) := tlt t.c0
  have HGL : Hid (g < w.heap.size) := t.sl.lt
  clear t hv
  go_enter Tryz.func89, Tryz.ntmps89
  go_wp2_with fail
  go_loopw [5, 6] (fun v t wr => ∃ j : Nat, j ≤ 32 ∧ t = .int .i64 j ∧ wr.ownsRow w.heap.size 3 1 v (expL T now j).length ((expL T now j).map intVx) ∧ RTab wr m g cap low (expT T now j) ∧ Chg g w wr) (fun _ t _ => 32 - (intOf t).toNat)
  case atStart => exact ⟨0, by omega, rfl, World.ownsRow_nil _ _ _ _, by rw [expT_zero]; exact HT.out, Chg.refl _ _⟩
  case round =>
    obtain ⟨j, hj, rfl, hown, htb, hcg⟩ := hrel
    have O2 : Hid (wr.ownsRow w.heap.size 3 1 u5 (expL T now j).length ((expL T now j).map intVx)) := hown
    have T2 : Hid (RTab wr m g cap low (expT T now j)) := htb
    have C2 : Hid (Chg g w wr) := hcg
    have m1 := htb.c1
    clear hown htb hcg
    by_cases hlt : j < 32
    · obtain ⟨c, hc⟩ : ∃ c, c = T j := ⟨_, rfl⟩
      have HG : Hid (goneQ now (T j) = ((c.pr != 0) && decide (c.un ≤ now))) := by show _ = _; rw [hc]; rfl
      have a2 := T2.out.sl.at' (i := j) (k := 2) hlt (by omega)
      have a9 := T2.out.sl.at' (i := j) (k := 9) hlt (by omega)
      rw [expT_here, ← hc] at a2 a9
      simp only [Ce.get] at a2 a9
      have i1 : (0 : Int) ≤ (j : Int) := by omega
      have i2 : (j : Int) < 32 := by omega
      clear hc
      rcases h1 : (c.pr != 0) with _ | _
      · have HN : Hid (goneQ now (T j) = false) := by show _ = _; rw [HG.out, h1]; rfl
        go_wp2_with fail
        go_roundw
        case rel => exact ⟨j + 1, by omega, by go_num, by rw [expL_no HN.out]; exact O2.out, by rw [expT_no HN.out]; exact T2.out, C2.out⟩
        case measure => simp [intOf]; omega
      by_cases h2 : c.un ≤ now
      · have HY : Hid (goneQ now (T j) = true) := by show _ = _; rw [HG.out, h1, decide_eq_true h2]; rfl
        go_wp2_with fail
        refine (dropR_any m g cap low (expT T now j) j (n + 1) _ T2.out (expT_ve HV.out now j) (by omega)).mono ?_
        rintro e w3 ⟨rfl, t3, c3⟩
        have T3 : Hid (RTab w3 m g cap low (expT T now (j + 1))) := by
          show RTab _ _ _ _ _ _
          rw [← expT_drop hlt HY.out]
          exact t3
        have O3 : Hid (w3.ownsRow w.heap.size 3 1 u5 (expL T now j).length ((expL T now j).map intVx)) := owns_chg O2.out c3 HGL.out
        have C3 : Hid (Chg g w w3) := C2.out.trans c3
        have hLn := expL_len T now j
        clear t3 c3 T2 O2 C2 a2 a9 m1
        go_wp2_with (at_builtin; refine wpList_append_own _ rfl _ _ 128 rfl w.heap.size 3 i0 (.int .i64 0) 1 8 Tryz.underlying128 hi hz0 hz1 hz2 rfl (by decide) u5 _ _ rfl (O3.out.alloc _) ⟨w3.heap.size, 0, none⟩ 1 1 [intVx j] rfl rfl ?c1 ?c2 ?c3 ?c4 ?c5 ?_)
        case c1 =>
          intro q u hu
          rw [tadd, Nat.zero_add, nw]
          simpa [intVx] using hu
        case c2 =>
          intro u hu
          obtain rfl := List.mem_singleton.1 hu
          rfl
        case c3 => unfold maxLen; omega
        case c4 => omega
        case c5 => have := C3.out.size; simp; omega
        intro v4 w4 hO4 hg4 _
        have hrow : ∀ q, u5.ownBlock = some q → w.heap.size ≤ q := fun q hq => (O3.out.lt _ hq).1
        have O4 : Hid (w4.ownsRow w.heap.size 3 1 v4 (expL T now (j + 1)).length ((expL T now (j + 1)).map intVx)) := by
          show w4.ownsRow _ _ _ _ _ _
          rw [expL_yes HY.out, List.length_append, List.map_append]
          exact hO4
        have T4 : Hid (RTab w4 m g cap low (expT T now (j + 1))) := rtab_grown (T3.out.below (aB _ _)) hg4 hrow HML.out HGL.out
        have C4 : Hid (Chg g w w4) := chg_grow2 (C3.out.then (aB _ _)) hg4 hrow
        clear hO4 hg4 hrow T3 O3 C3
        go_wp2_with fail
        go_roundw
        case rel => exact ⟨j + 1, by omega, by go_num, O4.out, T4.out, C4.out⟩
        case measure => simp [intOf]; omega
      · have HN : Hid (goneQ now (T j) = false) := by show _ = _; rw [HG.out, h1, decide_eq_false h2]; rfl
        go_wp2_with fail
        go_roundw
        case rel => exact ⟨j + 1, by omega, by go_num, by rw [expL_no HN.out]; exact O2.out, by rw [expT_no HN.out]; exact T2.out, C2.out⟩
        case measure => simp [intOf]; omega
    · obtain rfl : j = 32 := by omega
      go_wp2_with fail
      go_ret
      exact ⟨_, rfl, IntS.of_own O2.out, T2.out, C2.out⟩
end Go.Proofs.YtifjoboaolpejaaGreatDoor
