/-
  Texts in one: RnC RnD RnE.
-/
import Derived.Test.YtifjoboaolpejaaGreatDoorLe
import Derived.Test.YtifjoboaolpejaaGreatDoorKi
import Derived.Test.YtifjoboaolpejaaGreatDoorLi
namespace Go.Proofs.YtifjoboaolpejaaGreatDoor
open Go.RowKit

section
variable {w0 w : World} {r : RBk} {x : No} {q : Ro} {lo i : Int} {m : Nat}
/-- a fresh block is written: all else is as it was. -/
theorem RNd.fresh {u u' : World} {y : No} {q' : Ro} {lo' i' : Int} {m' Q : Nat} (H : RNd w0 w r x q lo i m) (h : RNd w0 u r y q' lo' i' m') (c : ChgL r.all w u) (g : Chg Q u u') (hr : w.heap.size ≤ Q) : RNd w0 u' r y q' lo' i' m' ∧ ChgL r.all w u' := by
  have g' : ChgL [Q] u u' := ChgL.one g (by simp)
  refine ⟨h.kept g' (fun b hb hm => ?_) (fun b hb => ?_), ?_⟩
  · have := H.blk b hb; rw [List.mem_singleton.1 hm] at this; omega
  · rw [List.mem_singleton.1 hb]; have := H.bl.size; omega
  · have h1 : ChgL (r.all ++ [Q]) w u := c.mono (fun b hb => Or.inl (List.mem_append_left _ hb))
    have h2 : ChgL (r.all ++ [Q]) u u' := g'.mono (fun b hb => Or.inl (List.mem_append_right _ hb))
    exact (h1.trans h2).mono (fun b hb => by rcases List.mem_append.1 hb with p | p; exact Or.inl p; rw [List.mem_singleton.1 p]; exact Or.inr hr)
set_option maxRecDepth 100000 in
set_option maxHeartbeats 4000000 in
theorem rpass_rn (h : RNd w0 w r x q lo i m) (hm : m ≤ 1000000000) (h0 : 0 ≤ x.now) (h1 : x.now ≤ 1000000000) (j : Nat) (hj : j < 32) (fl : Int) (ou : Bool) :
    Calls Tryz.prog 76 #[.pointer (some ⟨r.nd, 0, none⟩), .int .i64 j, .int .i64 fl, .bool ou] w fun e w' => e = .returned (flowV (x.T j)) ∧ RNd w0 w' r (x.stp j fl ou) q lo i (m + 1) ∧ ChgL r.all w w' := by
  have HN : Hid (RNd w0 w r x q lo i m) := h
  have HW : Hid (0 ≤ x.now ∧ x.now ≤ 1000000000 ∧ m ≤ 1000000000) := ⟨h0, h1, hm⟩
  have HJ : Hid (j < 32) := hj
  obtain ⟨c, hc⟩ : ∃ c, x.T j = c := ⟨_, rfl⟩
  have HCC : Hid (x.T j = c) := hc
  have b4 := h.nd.b4
  have l1 := h.tb.c1
  have z2 := h.tb.sl.at' (i := j) (k := 2) hj (by omega)
  have z3 := h.tb.sl.at' (i := j) (k := 3) hj (by omega)
  have z4 := h.tb.sl.at' (i := j) (k := 4) hj (by omega)
  have z5 := h.tb.sl.at' (i := j) (k := 5) hj (by omega)
  have z6 := h.tb.sl.at' (i := j) (k := 6) hj (by omega)
  have z7 := h.tb.sl.at' (i := j) (k := 7) hj (by omega)
  have z8 := h.tb.sl.at' (i := j) (k := 8) hj (by omega)
  have z9 := h.tb.sl.at' (i := j) (k := 9) hj (by omega)
  rw [hc] at z2 z3 z4 z5 z6 z7 z8 z9
  simp only [Ce.get] at z2 z3 z4 z5 z6 z7 z8 z9
  have HG : Hid (nxtG (x.T j).pr fl = nxtG c.pr fl ∧ x.nst j fl ou = nxtS c.pr c.st fl ou) := by rw [hc]; exact ⟨rfl, by unfold No.nst; rw [hc]⟩
  have k0 := h.blk _ r.m_nd
  have k1 := h.blk _ r.m_tb
  have k2 := h.blk _ r.m_tg
  have i0 : (0 : Int) ≤ (j : Int) := by omega
  have i1 : (j : Int) < 32 := by omega
  clear h h0 h1 hm hj hc
  go_enter Tryz.func76, Tryz.ntmps76
  go_wp2_with fail
  have Z3 : Hid (FlZ ((w.alloc (.cells #[.int .i64 0, .int .i64 0, .int .i64 0, .int .i64 0, .int .i64 0, .int .i64 0, .int .i64 0, .int .i64 0] 136)).alloc (.cells #[.int .i64 c.pr, .int .i64 c.ia, .int .i64 c.ip, .int .i64 c.fa, .int .i64 c.fp, .int .i64 c.po, .int .i64 c.st, .int .i64 c.un] 136)) w.heap.size noC) := (FlZ.zero w).below (aB _ _)
  have Y3 : Hid (FlZ ((w.alloc (.cells #[.int .i64 0, .int .i64 0, .int .i64 0, .int .i64 0, .int .i64 0, .int .i64 0, .int .i64 0, .int .i64 0] 136)).alloc (.cells #[.int .i64 c.pr, .int .i64 c.ia, .int .i64 c.ip, .int .i64 c.fa, .int .i64 c.fp, .int .i64 c.po, .int .i64 c.st, .int .i64 c.un] 136)) (w.heap.size + 1) c) := by
    have := FlZ.new (w.alloc (.cells #[.int .i64 0, .int .i64 0, .int .i64 0, .int .i64 0, .int .i64 0, .int .i64 0, .int .i64 0, .int .i64 0] 136)) c
    show FlZ _ _ _
    simpa using this
  have B3 : Hid (Below w.heap.size w ((w.alloc (.cells #[.int .i64 0, .int .i64 0, .int .i64 0, .int .i64 0, .int .i64 0, .int .i64 0, .int .i64 0, .int .i64 0] 136)).alloc (.cells #[.int .i64 c.pr, .int .i64 c.ia, .int .i64 c.ip, .int .i64 c.fa, .int .i64 c.fp, .int .i64 c.po, .int .i64 c.st, .int .i64 c.un] 136))) := t2 (aB _ _) (aB _ _)
  generalize ((w.alloc (.cells #[.int .i64 0, .int .i64 0, .int .i64 0, .int .i64 0, .int .i64 0, .int .i64 0, .int .i64 0, .int .i64 0] 136)).alloc (.cells #[.int .i64 c.pr, .int .i64 c.ia, .int .i64 c.ip, .int .i64 c.fa, .int .i64 c.fp, .int .i64 c.po, .int .i64 c.st, .int .i64 c.un] 136)) = w3 at *
  clear b4 l1 z2 z3 z4 z5 z6 z7 z8 z9 k0 k1 k2
  have N3 : Hid (RNd w0 w3 r x q lo i m) := HN.out.below B3.out
  refine (nextOf_any c.pr c.st fl ou w3).mono ?_
  rintro e w4 ⟨rfl, hw⟩
  obtain rfl := hw.symm
  clear hw
  obtain ⟨st', hst'⟩ : ∃ st', nxtS c.pr c.st fl ou = st' := ⟨_, rfl⟩
  have HGS : Hid (x.nst j fl ou = st') := HG.out.2.trans hst'
  have HNQ : Hid (¬ (w.heap.size + 1) ∈ r.all) := fun hm => by have := HN.out.blk _ hm; omega
  have HNW : Hid (¬ w.heap.size ∈ r.all) := fun hm => by have := HN.out.blk _ hm; omega
  rw [hst']
  clear hst'
  cases hg : nxtG c.pr fl
  · have HX : Hid (x.stp j fl ou = { x with T := setT x.T j st' (x.now + stay c.pr st') }) := by show _ = _; unfold No.stp; rw [HG.out.1, hg, HGS.out, HCC.out]; rfl
    clear hg
    go_wp2_with fail
    have HTU : Hid (∀ u, Calls Tryz.prog 80 #[.int .i64 c.pr, .int .i64 st'] u fun e w' => e = .returned (.int .i64 (stay c.pr st')) ∧ w' = u) := fun u => timeOf_any c.pr st' u
    have hsl := stay_le c.pr st'
    have hwr : IntKind.i64.wrap (x.now + stay c.pr st') = x.now + stay c.pr st' := by
      have := HW.out
      rw [IntKind.wrap_i64]; omega
    have HTS : Hid (∀ u un, RNd w0 u r x q lo i m → Calls Tryz.prog 123 #[.pointer (some ⟨r.tb, 0, none⟩), .int .i64 j, .int .i64 st', .int .i64 un] u fun e w' => (∃ v, e = .returned v) ∧ RNd w0 w' r { x with T := setT x.T j st' un } q lo i (m + 1) ∧ ChgL r.all u w') := fun u un hu => rset_rn hu HW.out.2.2 j st' un
    have hS : w3.drew.cell? ⟨r.nd, 4, none⟩ = some (.pointer (some ⟨r.tb, 0, none⟩)) ∧ w3.drew.cell? ⟨r.nd, 1, none⟩ = some (.int .i64 x.now) ∧ w3.drew.cell? ⟨w.heap.size + 1, 0, none⟩ = some (.int .i64 c.pr) := ⟨N3.out.nd.b4, N3.out.nd.b1, Y3.out.b.c0⟩
    have D3 : Hid (RNd w0 w3.drew r x q lo i m) := N3.out.below (Below.refl _ _).drew
    go_region_held3 (fun w' => w'.cell? ⟨r.nd, 4, none⟩ = some (.pointer (some ⟨r.tb, 0, none⟩)) ∧ w'.cell? ⟨r.nd, 1, none⟩ = some (.int .i64 x.now) ∧ w'.cell? ⟨w.heap.size + 1, 0, none⟩ = some (.int .i64 c.pr))
      (first | assumption | exact ⟨N6.out.nd.b4, N6.out.nd.b1, K6.out.keeps HNQ.out hS.2.2⟩)
      (first
        | (go_at_call 80; refine (HTU.out _).mono ?_; rintro e w5 ⟨rfl, rfl⟩)
        | (go_at_call 123; refine (HTS.out _ _ D3.out).mono ?_; rintro e w6 ⟨⟨v6, rfl⟩, n6, k6⟩; have N6 : Hid (RNd w0 w6 r { x with T := setT x.T j st' (x.now + stay c.pr st') } q lo i (m + 1)) := n6; have K6 : Hid (ChgL r.all w3.drew w6) := k6; clear n6 k6))
    have Z6 : Hid (FlZ w6 w.heap.size noC) := (Z3.out.below (Below.refl _ _).drew).chgL K6.out HNW.out
    have Y6 : Hid (FlZ w6 (w.heap.size + 1) c) := (Y3.out.below (Below.refl _ _).drew).chgL K6.out HNQ.out
    have X6 : Hid (ChgL r.all w w6) := (ChgL.of (t2 B3.out (Below.refl _ _).drew)).trans K6.out
    clear hS K6 hwr hsl D3
    obtain ⟨w7, hst, hz7, hc7⟩ := flz_store Z6.out c
    obtain ⟨n7, k7⟩ := HN.out.fresh N6.out X6.out hc7 (Nat.le_refl _)
    have N7 : Hid (RNd w0 w7 r { x with T := setT x.T j st' (x.now + stay c.pr st') } q lo i (m + 1)) := n7
    have K7 : Hid (ChgL r.all w w7) := k7
    have Z7 : Hid (FlZ w7 w.heap.size c) := hz7
    have y := Y6.out.b
    have y0 := y.c0
    have y1 := y.c1
    have y2 := y.c2
    have y3 := y.c3
    have y4 := y.c4
    have y5 := y.c5
    have y6 := y.c6
    have y7 := y.c7
    clear n7 k7 hz7 hc7 y
    go_wp2_with (refine wpList_store_eq rfl 136 _ _ rfl _ _ _ rfl rfl hst ?_)
    clear hst y0 y1 y2 y3 y4 y5 y6 y7
    have qz := Z7.out.b
    go_wp2_with fail
    exact bodyPost_ret (v := flowV c) (by simp [results, Tryz.results76, go_sem, qz.c0, qz.c1, qz.c2, qz.c3, qz.c4, qz.c5, qz.c6, qz.c7, flowV]) rfl ⟨by rw [HCC.out], by rw [HX.out]; exact N7.out, K7.out⟩
  · have HX : Hid (x.stp j fl ou = { x with T := dropT x.T j }) := by show _ = _; unfold No.stp; rw [HG.out.1, hg]; rfl
    clear hg
    have b4 := N3.out.nd.b4
    go_wp2_with fail
    refine (rdrop_rn N3.out HW.out.2.2 j).mono ?_
    rintro e w6 ⟨⟨v6, rfl⟩, n6, k6⟩
    have N6 : Hid (RNd w0 w6 r { x with T := dropT x.T j } q lo i (m + 1)) := n6
    have Z6 : Hid (FlZ w6 w.heap.size noC) := Z3.out.chgL k6 HNW.out
    have Y6 : Hid (FlZ w6 (w.heap.size + 1) c) := Y3.out.chgL k6 HNQ.out
    have X6 : Hid (ChgL r.all w w6) := (ChgL.of B3.out).trans k6
    clear n6 k6 b4
    obtain ⟨w7, hst, hz7, hc7⟩ := flz_store Z6.out c
    obtain ⟨n7, k7⟩ := HN.out.fresh N6.out X6.out hc7 (Nat.le_refl _)
    have N7 : Hid (RNd w0 w7 r { x with T := dropT x.T j } q lo i (m + 1)) := n7
    have K7 : Hid (ChgL r.all w w7) := k7
    have Z7 : Hid (FlZ w7 w.heap.size c) := hz7
    have y := Y6.out.b
    have y0 := y.c0
    have y1 := y.c1
    have y2 := y.c2
    have y3 := y.c3
    have y4 := y.c4
    have y5 := y.c5
    have y6 := y.c6
    have y7 := y.c7
    clear n7 k7 hz7 hc7 y
    go_wp2_with (refine wpList_store_eq rfl 136 _ _ rfl _ _ _ rfl rfl hst ?_)
    clear hst y0 y1 y2 y3 y4 y5 y6 y7
    have qz := Z7.out.b
    go_wp2_with fail
    exact bodyPost_ret (v := flowV c) (by simp [results, Tryz.results76, go_sem, qz.c0, qz.c1, qz.c2, qz.c3, qz.c4, qz.c5, qz.c6, qz.c7, flowV]) rfl ⟨by rw [HCC.out], by rw [HX.out]; exact N7.out, K7.out⟩
end
end Go.Proofs.YtifjoboaolpejaaGreatDoor

namespace Go.Proofs.YtifjoboaolpejaaGreatDoor
open Go.RowKit

section
variable {w0 w : World} {r : RBk} {x : No} {q : Ro} {lo i : Int} {m : Nat}
theorem radd_rn (h : RNd w0 w r x q lo i m) (hm : m ≤ 1000000000) (pr ia ip fa fp st un : Int) :
    Calls Tryz.prog 79 #[.pointer (some ⟨r.tb, 0, none⟩), .int .i64 pr, .agg #[.int .i64 ia, .int .i64 ip], .agg #[.int .i64 fa, .int .i64 fp], .int .i64 st, .int .i64 un] w fun e w' => e = .returned (.tuple #[.int .i64 ((addT x.T x.low pr ia ip fa fp st un).1 : Nat), .int .i64 ((addT x.T x.low pr ia ip fa fp st un).2.1 : Nat)]) ∧ RNd w0 w' r { x with T := (addT x.T x.low pr ia ip fa fp st un).2.2 } q lo i (m + 1) ∧ ChgL r.all w w' := by
  have hid := h.id
  refine (addR_any r.tb r.tg r.tc x.low x.T pr ia ip fa fp st un m w h.tb (by unfold No.low; omega) (by unfold No.low; omega) h.vs hm).mono ?_
  rintro e w' ⟨rfl, t, g⟩
  exact ⟨rfl, h.onTb t (h.vs.add _ _ _ _ _ _ _ _) g, ChgL.one g r.m_tg⟩
theorem addT_slot {T : Tb} {low pr ia ip fa fp st un : Int} (h : (addT T low pr ia ip fa fp st un).2.1 = 0) : (addT T low pr ia ip fa fp st un).1 < 32 := by
  unfold addT at h ⊢
  repeat' split
  all_goals first | (simp_all; done) | exact fst_lt (by assumption) | simp_all
theorem RNd.vers (h : RNd w0 w r x q lo i m) : RNd w0 w r x q lo i (m + 1) := { h with vs := h.vs.more (by omega) }
set_option maxRecDepth 100000 in
set_option maxHeartbeats 4000000 in
theorem rinside_rn (h : RNd w0 w r x q lo i m) (hm : m ≤ 1000000000) (h0 : 0 ≤ x.now) (h1 : x.now ≤ 1000000000) (p : Pk) :
    Calls Tryz.prog 41 #[.pointer (some ⟨r.nd, 0, none⟩), p.v] w fun e w' => e = .returned (.tuple #[(x.inP p).v, .int .i64 (x.inE p : Nat)]) ∧ RNd w0 w' r (x.ins p) q lo i (m + 1) ∧ ChgL r.all w w' := by
  have HN : Hid (RNd w0 w r x q lo i m) := h
  have HW : Hid (0 ≤ x.now ∧ x.now ≤ 1000000000 ∧ m ≤ 1000000000) := ⟨h0, h1, hm⟩
  clear h h0 h1 hm
  go_enter Tryz.func41, Tryz.ntmps41
  go_wp2_with fail
  have P1 : Hid (PkZ ((w.alloc (.cells #[.int .i64 p.pr, .int .i64 p.a1, .int .i64 p.p1, .int .i64 p.a2, .int .i64 p.p2, .int .i64 p.fl] 50)).alloc (.cells #[.int .i64 0, .int .i64 0, .int .i64 0, .int .i64 0, .int .i64 0, .int .i64 0] 50)) w.heap.size p) := (PkZ.new w p).below (aB _ _)
  have B1 : Hid (Below w.heap.size w ((w.alloc (.cells #[.int .i64 p.pr, .int .i64 p.a1, .int .i64 p.p1, .int .i64 p.a2, .int .i64 p.p2, .int .i64 p.fl] 50)).alloc (.cells #[.int .i64 0, .int .i64 0, .int .i64 0, .int .i64 0, .int .i64 0, .int .i64 0] 50))) := t2 (aB _ _) (aB _ _)
  have Z1 : Hid (PkZ ((w.alloc (.cells #[.int .i64 p.pr, .int .i64 p.a1, .int .i64 p.p1, .int .i64 p.a2, .int .i64 p.p2, .int .i64 p.fl] 50)).alloc (.cells #[.int .i64 0, .int .i64 0, .int .i64 0, .int .i64 0, .int .i64 0, .int .i64 0] 50)) (w.heap.size + 1) noP) := by
    have := PkZ.zero (w.alloc (.cells #[.int .i64 p.pr, .int .i64 p.a1, .int .i64 p.p1, .int .i64 p.a2, .int .i64 p.p2, .int .i64 p.fl] 50))
    show PkZ _ _ _
    simpa using this
  generalize ((w.alloc (.cells #[.int .i64 p.pr, .int .i64 p.a1, .int .i64 p.p1, .int .i64 p.a2, .int .i64 p.p2, .int .i64 p.fl] 50)).alloc (.cells #[.int .i64 0, .int .i64 0, .int .i64 0, .int .i64 0, .int .i64 0, .int .i64 0] 50)) = w1 at *
  generalize hPe : w.heap.size = P at P1 Z1 ⊢
  generalize hQe : P + 1 = Q at Z1 ⊢
  have HNQ : Hid (¬ Q ∈ r.all) := fun hm => by have := HN.out.blk _ hm; omega
  have HNP : Hid (¬ P ∈ r.all) := fun hm => by have := HN.out.blk _ hm; omega
  refine (perr_any p.pr p.a1 p.p1 p.a2 p.p2 p.fl w1).mono ?_
  rintro e w2 ⟨rfl, hb2⟩
  have B2 : Hid (Below w.heap.size w w2) := t2 B1.out hb2
  have N2 : Hid (RNd w0 w2 r x q lo i m) := HN.out.below B2.out
  have P2 : Hid (PkZ w2 P p) := P1.out.below hb2
  have Z2 : Hid (PkZ w2 Q noP) := Z1.out.below hb2
  clear hb2 B1 P1 Z1
  have hpe : (pkErr p.pr p.a1 p.p1 p.a2 p.p2 p.fl : Nat) = p.err := rfl
  rw [hpe]
  clear hpe
  by_cases he : p.err = 0
  rotate_left
  · have HC : Hid (x.chk p = p.err ∧ p.err ≠ 0) := ⟨by unfold No.chk; rw [if_neg he], he⟩
    have HIE : Hid (x.inE p = p.err) := by show _ = _; unfold No.inE; rw [if_neg (by rw [HC.out.1]; exact he), HC.out.1]
    have HIP : Hid (x.inP p = noP) := by show _ = _; unfold No.inP; rw [if_neg (by rw [HIE.out]; exact he)]
    have HX : Hid (x.ins p = x) := by show _ = _; unfold No.ins; rw [if_neg (by rw [HC.out.1]; exact he)]
    have hgt : (0 : Int) < (p.err : Int) := by omega
    clear he
    obtain ⟨w9, hst0, hz9, hc9⟩ := pkz_store Z2.out noP
    have hst : (Instr.storeAt 50 (.pointer (some ⟨Q, 0, none⟩)) (.agg #[.int .i64 0, .int .i64 0, .int .i64 0, .int .i64 0, .int .i64 0, .int .i64 0])).run Tryz.prog w2 = .ok () w9 := hst0
    obtain ⟨n9, k9⟩ := HN.out.fresh N2.out (ChgL.of B2.out) hc9 (by omega)
    have N9 : Hid (RNd w0 w9 r x q lo i _) := n9
    have K9 : Hid (ChgL r.all w w9) := k9
    have Z9 : Hid (PkZ w9 Q noP) := hz9
    clear n9 k9 hz9 hc9 hst0
    go_wp2_with (refine wpList_store_eq rfl 50 _ _ rfl _ _ _ rfl rfl hst ?_)
    clear hst
    have qz := Z9.out.b
    go_wp2_with fail
    exact bodyPost_ret (v := .tuple #[noP.v, .int .i64 (p.err : Nat)]) (by simp [results, Tryz.results41, go_sem, qz.c0, qz.c1, qz.c2, qz.c3, qz.c4, qz.c5, Pk.v, noP]) rfl ⟨by rw [HIP.out, HIE.out]; try rfl, by rw [HX.out]; exact N9.out.vers, K9.out⟩
  · rw [he]
    by_cases ha : x.ro.ac = true
    rotate_left
    · have ha' : x.ro.ac = false := by simpa using ha
      have HC : Hid (x.chk p = 9) := by show _ = _; unfold No.chk; rw [if_pos he, ha']; rfl
      have HIE : Hid (x.inE p = 9) := by show _ = _; unfold No.inE; rw [if_neg (by rw [HC.out]; omega), HC.out]
      have HIP : Hid (x.inP p = noP) := by show _ = _; unfold No.inP; rw [if_neg (by rw [HIE.out]; omega)]
      have HX : Hid (x.ins p = x) := by show _ = _; unfold No.ins; rw [if_neg (by rw [HC.out]; omega)]
      have b3 := N2.out.nd.b3
      have a3 := N2.out.ro.c3
      rw [N2.out.sm.ac, ha'] at a3
      clear ha ha' he
      obtain ⟨w9, hst0, hz9, hc9⟩ := pkz_store Z2.out noP
      have hst : (Instr.storeAt 50 (.pointer (some ⟨Q, 0, none⟩)) (.agg #[.int .i64 0, .int .i64 0, .int .i64 0, .int .i64 0, .int .i64 0, .int .i64 0])).run Tryz.prog w2 = .ok () w9 := hst0
      obtain ⟨n9, k9⟩ := HN.out.fresh N2.out (ChgL.of B2.out) hc9 (by omega)
      have N9 : Hid (RNd w0 w9 r x q lo i _) := n9
      have K9 : Hid (ChgL r.all w w9) := k9
      have Z9 : Hid (PkZ w9 Q noP) := hz9
      clear n9 k9 hz9 hc9 hst0
      go_wp2_with (refine wpList_store_eq rfl 50 _ _ rfl _ _ _ rfl rfl hst ?_)
      clear hst
      have qz := Z9.out.b
      go_wp2_with fail
      exact bodyPost_ret (v := .tuple #[noP.v, .int .i64 9]) (by simp [results, Tryz.results41, go_sem, qz.c0, qz.c1, qz.c2, qz.c3, qz.c4, qz.c5, Pk.v, noP]) rfl ⟨by rw [HIP.out, HIE.out]; try rfl, by rw [HX.out]; exact N9.out.vers, K9.out⟩
    · have b3 := N2.out.nd.b3
      have a3 := N2.out.ro.c3
      rw [N2.out.sm.ac, ha] at a3
      have b4 := N2.out.nd.b4
      obtain ⟨r0, r1, r2, r3, r4, r5⟩ := P2.out.b
      have HC : Hid (x.chk p = 0) := by show _ = _; unfold No.chk; rw [if_pos he, ha]; rfl
      clear ha he
      go_wp2_with fail
      clear b3 a3 r5
      have hS : w2.drew.cell? ⟨r.nd, 4, none⟩ = some (.pointer (some ⟨r.tb, 0, none⟩)) ∧ w2.drew.cell? ⟨P, 0, none⟩ = some (.int .i64 p.pr) ∧ w2.drew.cell? ⟨P, 1, none⟩ = some (.int .i64 p.a1) ∧ w2.drew.cell? ⟨P, 2, none⟩ = some (.int .i64 p.p1) ∧ w2.drew.cell? ⟨P, 3, none⟩ = some (.int .i64 p.a2) ∧ w2.drew.cell? ⟨P, 4, none⟩ = some (.int .i64 p.p2) := ⟨b4, r0, r1, r2, r3, r4⟩
      have D2 : Hid (RNd w0 w2.drew r x q lo i m) := N2.out.below (Below.refl _ _).drew
      go_region_held3 (fun w' => w'.cell? ⟨r.nd, 4, none⟩ = some (.pointer (some ⟨r.tb, 0, none⟩)) ∧ w'.cell? ⟨P, 0, none⟩ = some (.int .i64 p.pr) ∧ w'.cell? ⟨P, 1, none⟩ = some (.int .i64 p.a1) ∧ w'.cell? ⟨P, 2, none⟩ = some (.int .i64 p.p1) ∧ w'.cell? ⟨P, 3, none⟩ = some (.int .i64 p.a2) ∧ w'.cell? ⟨P, 4, none⟩ = some (.int .i64 p.p2))
        (first | assumption | exact ⟨tk hb3 hS.1, tk hb3 hS.2.1, tk hb3 hS.2.2.1, tk hb3 hS.2.2.2.1, tk hb3 hS.2.2.2.2.1, tk hb3 hS.2.2.2.2.2⟩)
        (first
          | (go_at_call 75; refine (rfind_rn D2.out p.pr p.a1 p.p1 p.a2 p.p2).mono ?_; rintro e w3 ⟨rfl, hb3⟩))
      have B3 : Hid (Below w.heap.size w w3) := t2 (t2 B2.out (Below.refl _ _).drew) hb3
      have N3 : Hid (RNd w0 w3 r x q lo i m) := HN.out.below B3.out
      have P3 : Hid (PkZ w3 P p) := (P2.out.below (Below.refl _ _).drew).below hb3
      have Z3 : Hid (PkZ w3 Q noP) := (Z2.out.below (Below.refl _ _).drew).below hb3
      clear hb3 hS b4 r0 r1 r2 r3 r4 D2 N2 P2 Z2 B2
      obtain ⟨o, ho⟩ : ∃ o, fst x.T (findQ p.pr p.a1 p.p1 p.a2 p.p2) = o := ⟨_, rfl⟩
      have HF : Hid (x.fnd p = o) := ho
      rw [ho]
      have ho' := ho
      clear ho
      cases o with
      | some j =>
        have hj : j < 32 := fst_lt ho'
        clear ho'
        simp only [foundI]
        have g0 : (0 : Int) ≤ (j : Int) := by omega
        obtain ⟨s0, s1, s2, s3, s4, s5⟩ := P3.out.b
        have hPl : P < w3.heap.size := by have := tlt s0; exact this
        have FZ : Hid (FlZ (w3.alloc (.cells #[.int .i64 0, .int .i64 0, .int .i64 0, .int .i64 0, .int .i64 0, .int .i64 0, .int .i64 0, .int .i64 0] 136)) w3.heap.size noC) := FlZ.zero w3
        have N4 : Hid (RNd w0 (w3.alloc (.cells #[.int .i64 0, .int .i64 0, .int .i64 0, .int .i64 0, .int .i64 0, .int .i64 0, .int .i64 0, .int .i64 0] 136)) r x q lo i m) := N3.out.below (aB _ _)
        have X4 : Hid (ChgL r.all w (w3.alloc (.cells #[.int .i64 0, .int .i64 0, .int .i64 0, .int .i64 0, .int .i64 0, .int .i64 0, .int .i64 0, .int .i64 0] 136))) := ChgL.of (t2 B3.out (aB _ _))
        have P4 : Hid (PkZ (w3.alloc (.cells #[.int .i64 0, .int .i64 0, .int .i64 0, .int .i64 0, .int .i64 0, .int .i64 0, .int .i64 0, .int .i64 0] 136)) P p) := P3.out.below (aB _ _)
        have Z4 : Hid (PkZ (w3.alloc (.cells #[.int .i64 0, .int .i64 0, .int .i64 0, .int .i64 0, .int .i64 0, .int .i64 0, .int .i64 0, .int .i64 0] 136)) Q noP) := Z3.out.below (aB _ _)
        have HFB : Hid (w.heap.size ≤ w3.heap.size ∧ Q < w3.heap.size) := ⟨B3.out.size, tlt Z3.out.b.c0⟩
        have HNF : Hid (¬ w3.heap.size ∈ r.all) := fun hm => by have := HN.out.blk _ hm; have := B3.out.size; omega
        go_wp2_with fail
        clear s0 s1 s2 s3 s4 s5
        generalize w3.alloc (.cells #[.int .i64 0, .int .i64 0, .int .i64 0, .int .i64 0, .int .i64 0, .int .i64 0, .int .i64 0, .int .i64 0] 136) = w4 at *
        generalize hFe : w3.heap.size = F at *
        refine (rpass_rn N4.out HW.out.2.2 HW.out.1 HW.out.2.1 j hj p.fl true).mono ?_
        rintro e w5 ⟨rfl, n5, k5⟩
        have N5 : Hid (RNd w0 w5 r (x.stp j p.fl true) q lo i (m + 1)) := n5
        have X5 : Hid (ChgL r.all w w5) := X4.out.trans k5
        have P5 : Hid (PkZ w5 P p) := P4.out.chgL k5 HNP.out
        have Z5 : Hid (PkZ w5 Q noP) := Z4.out.chgL k5 HNQ.out
        have F5 : Hid (FlZ w5 F noC) := FZ.out.chgL k5 HNF.out
        clear n5 k5 N4 X4 P4 Z4 FZ N3 P3 Z3
        obtain ⟨c, hcc⟩ : ∃ c, x.T j = c := ⟨_, rfl⟩
        have HCC : Hid (x.T j = c) := hcc
        rw [hcc]
        clear hcc
        obtain ⟨w6, hst, hf6, hc6⟩ := flz_store F5.out c
        obtain ⟨n6, k6⟩ := HN.out.fresh N5.out X5.out hc6 (by have := HFB.out; omega)
        have N6 : Hid (RNd w0 w6 r (x.stp j p.fl true) q lo i (m + 1)) := n6
        have X6 : Hid (ChgL r.all w w6) := k6
        have P6 : Hid (PkZ w6 P p) := P5.out.chgL (ChgL.one (l := [F]) hc6 (by simp)) (by simp; omega)
        have Z6 : Hid (PkZ w6 Q noP) := Z5.out.chgL (ChgL.one (l := [F]) hc6 (by simp)) (by have := HFB.out; simp; omega)
        have F6 : Hid (FlZ w6 F c) := hf6
        clear n6 k6 hf6 hc6 N5 X5 P5 Z5 F5
        simp only [flowV] at hst ⊢
        have HOE : Hid (x.ouE p = 0 ∧ x.ou p = x.stp j p.fl true ∧ x.ouF p = c) := ⟨by unfold No.ouE; rw [HF.out], by unfold No.ou; rw [HF.out], by unfold No.ouF; rw [HF.out]; exact HCC.out⟩
        have HIE : Hid (x.inE p = 0) := by show _ = _; unfold No.inE; rw [if_pos HC.out, HOE.out.1]
        have HIP : Hid (x.inP p = ⟨p.pr, 1, c.po, p.a2, p.p2, p.fl⟩) := by show _ = _; unfold No.inP; rw [if_pos HIE.out, HOE.out.2.2]
        have HX : Hid (x.ins p = x.stp j p.fl true) := by show _ = _; unfold No.ins; rw [if_pos HC.out, HOE.out.2.1]
        have g5 := F6.out.b.c5
        obtain ⟨r0, r1, r2, r3, r4, r5⟩ := P6.out.b
        have pf := P6.out.fr
        have hcg := set_chg2 w6 P 1 2 (.int .i64 1) (.int .i64 c.po)
        have Z7 : Hid (PkZ ((w6.setCell ⟨P, 1, none⟩ (.int .i64 1)).setCell ⟨P, 2, none⟩ (.int .i64 c.po)) Q noP) := Z6.out.chgL (ChgL.one (l := [P]) hcg (by simp)) (by simp; omega)
        obtain ⟨n7, k7⟩ := HN.out.fresh N6.out X6.out hcg (by omega)
        obtain ⟨w9, hst2, hz9, hc9⟩ := pkz_store Z7.out ⟨p.pr, 1, c.po, p.a2, p.p2, p.fl⟩
        simp only at hst2
        obtain ⟨n9, k9⟩ := HN.out.fresh n7 k7 hc9 (by omega)
        have N9 : Hid (RNd w0 w9 r (x.stp j p.fl true) q lo i (m + 1)) := n9
        have K9 : Hid (ChgL r.all w w9) := k9
        have Z9 : Hid (PkZ w9 Q ⟨p.pr, 1, c.po, p.a2, p.p2, p.fl⟩) := hz9
        clear n9 k9 hz9 hc9 n7 k7 hcg
        go_wp2_with (first | refine wpList_store_eq rfl 136 _ _ rfl _ _ _ rfl rfl hst ?_ | refine wpList_store_eq rfl 50 _ _ rfl _ _ _ rfl rfl hst2 ?_)
        clear hst2 g5 r0 r1 r2 r3 r4 r5 pf
        have qz := Z9.out.b
        go_wp2_with fail
        exact bodyPost_ret (v := .tuple #[Pk.v ⟨p.pr, 1, c.po, p.a2, p.p2, p.fl⟩, .int .i64 0]) (by simp [results, Tryz.results41, go_sem, qz.c0, qz.c1, qz.c2, qz.c3, qz.c4, qz.c5, Pk.v]) rfl ⟨by rw [HIP.out, HIE.out]; rfl, by rw [HX.out]; exact N9.out, K9.out⟩
      | none =>
        clear ho'
        simp only [foundI]
        have HOE : Hid (x.ouE p = x.bgE p ∧ x.ou p = x.bg p ∧ x.ouF p = x.bgF p) := ⟨by unfold No.ouE; rw [HF.out], by unfold No.ou; rw [HF.out], by unfold No.ouF; rw [HF.out]⟩
        have HIE : Hid (x.inE p = x.bgE p) := by show _ = _; unfold No.inE; rw [if_pos HC.out, HOE.out.1]
        have HX : Hid (x.ins p = x.bg p) := by show _ = _; unfold No.ins; rw [if_pos HC.out, HOE.out.2.1]
        have FZ : Hid (FlZ (w3.alloc (.cells #[.int .i64 0, .int .i64 0, .int .i64 0, .int .i64 0, .int .i64 0, .int .i64 0, .int .i64 0, .int .i64 0] 136)) w3.heap.size noC) := FlZ.zero w3
        have N4 : Hid (RNd w0 (w3.alloc (.cells #[.int .i64 0, .int .i64 0, .int .i64 0, .int .i64 0, .int .i64 0, .int .i64 0, .int .i64 0, .int .i64 0] 136)) r x q lo i m) := N3.out.below (aB _ _)
        have X4 : Hid (ChgL r.all w (w3.alloc (.cells #[.int .i64 0, .int .i64 0, .int .i64 0, .int .i64 0, .int .i64 0, .int .i64 0, .int .i64 0, .int .i64 0] 136))) := ChgL.of (t2 B3.out (aB _ _))
        have P4 : Hid (PkZ (w3.alloc (.cells #[.int .i64 0, .int .i64 0, .int .i64 0, .int .i64 0, .int .i64 0, .int .i64 0, .int .i64 0, .int .i64 0] 136)) P p) := P3.out.below (aB _ _)
        have Z4 : Hid (PkZ (w3.alloc (.cells #[.int .i64 0, .int .i64 0, .int .i64 0, .int .i64 0, .int .i64 0, .int .i64 0, .int .i64 0, .int .i64 0] 136)) Q noP) := Z3.out.below (aB _ _)
        have HFB : Hid (w.heap.size ≤ w3.heap.size ∧ Q < w3.heap.size ∧ P < w3.heap.size) := ⟨B3.out.size, tlt Z3.out.b.c0, tlt P3.out.b.c0⟩
        have HNF : Hid (¬ w3.heap.size ∈ r.all) := fun hm => by have := HN.out.blk _ hm; have := B3.out.size; omega
        go_wp2_with fail
        generalize w3.alloc (.cells #[.int .i64 0, .int .i64 0, .int .i64 0, .int .i64 0, .int .i64 0, .int .i64 0, .int .i64 0, .int .i64 0] 136) = w4 at *
        generalize hFe : w3.heap.size = F at *
        clear N3 P3 Z3
        have hS : w4.drew.cell? ⟨r.nd, 7, none⟩ = some (.slice r.rp x.ru.length r.rc) ∧ w4.drew.cell? ⟨P, 0, none⟩ = some (.int .i64 p.pr) ∧ w4.drew.cell? ⟨P, 4, none⟩ = some (.int .i64 p.p2) := ⟨N4.out.nd.b7, P4.out.b.c0, P4.out.b.c4⟩
        have D4 : Hid (RNd w0 w4.drew r x q lo i m) := N4.out.below (Below.refl _ _).drew
        go_region_held3 (fun w' => w'.cell? ⟨r.nd, 7, none⟩ = some (.slice r.rp x.ru.length r.rc) ∧ w'.cell? ⟨P, 0, none⟩ = some (.int .i64 p.pr) ∧ w'.cell? ⟨P, 4, none⟩ = some (.int .i64 p.p2))
          (first | assumption | exact ⟨tk hb5 hS.1, tk hb5 hS.2.1, tk hb5 hS.2.2⟩)
          (first
            | (go_at_call 77; refine (aof_any r.rp x.ru r.rc p.pr p.p2 true _ D4.out.ru D4.out.rl).mono ?_; rintro e w5 ⟨rfl, hb5⟩))
        have K5 : Hid (Below w4.heap.size w4 w5) := t2 ((Below.refl _ _).drew) hb5
        have N5 : Hid (RNd w0 w5 r x q lo i m) := N4.out.below K5.out
        have X5 : Hid (ChgL r.all w w5) := X4.out.trans (ChgL.of K5.out)
        have P5 : Hid (PkZ w5 P p) := P4.out.below K5.out
        have Z5 : Hid (PkZ w5 Q noP) := Z4.out.below K5.out
        have F5 : Hid (FlZ w5 F noC) := FZ.out.below K5.out
        clear hb5 hS D4 K5 N4 X4 P4 Z4 FZ
        cases had : adm x.ru p.pr true p.p2 with
        | false =>
          have HB : Hid (x.bgE p = 8 ∧ x.bg p = x) := by
            have h8 : x.bgE p = 8 := by unfold No.bgE; rw [had]; rfl
            exact ⟨h8, by unfold No.bg; rw [if_neg (by rw [h8]; omega)]⟩
          have HIP : Hid (x.inP p = noP) := by show _ = _; unfold No.inP; rw [if_neg (by rw [HIE.out, HB.out.1]; omega)]
          clear had
          obtain ⟨w9, hst0, hz9, hc9⟩ := pkz_store Z5.out noP
          have hst : (Instr.storeAt 50 (.pointer (some ⟨Q, 0, none⟩)) (.agg #[.int .i64 0, .int .i64 0, .int .i64 0, .int .i64 0, .int .i64 0, .int .i64 0])).run Tryz.prog w5 = .ok () w9 := hst0
          obtain ⟨n9, k9⟩ := HN.out.fresh N5.out X5.out hc9 (by omega)
          have N9 : Hid (RNd w0 w9 r x q lo i _) := n9
          have K9 : Hid (ChgL r.all w w9) := k9
          have Z9 : Hid (PkZ w9 Q noP) := hz9
          clear n9 k9 hz9 hc9 hst0
          go_wp2_with (refine wpList_store_eq rfl 50 _ _ rfl _ _ _ rfl rfl hst ?_)
          clear hst
          have qz := Z9.out.b
          go_wp2_with fail
          exact bodyPost_ret (v := .tuple #[noP.v, .int .i64 8]) (by simp [results, Tryz.results41, go_sem, qz.c0, qz.c1, qz.c2, qz.c3, qz.c4, qz.c5, Pk.v, noP]) rfl ⟨by rw [HIP.out, HIE.out, HB.out.1]; try rfl, by rw [HX.out, HB.out.2]; exact N9.out.vers, K9.out⟩
        | true =>
          have HAD : Hid (adm x.ru p.pr true p.p2 = true) := had
          clear had
          obtain ⟨s0, s1, s2, s3, s4, s5⟩ := P5.out.b
          go_wp2_with fail
          refine (bgnOf_any p.pr p.fl w5).mono ?_
          rintro e w6 ⟨rfl, hw⟩
          obtain rfl := hw.symm
          clear hw s0 s1 s2 s3 s4 s5
          by_cases hbe : bgnE p.pr p.fl = 0
          rotate_left
          · have HB : Hid (x.bgE p = bgnE p.pr p.fl ∧ x.bg p = x) := by
              have h8 : x.bgE p = bgnE p.pr p.fl := by unfold No.bgE; rw [HAD.out, if_neg hbe]; rfl
              exact ⟨h8, by unfold No.bg; rw [if_neg (by rw [h8]; exact hbe)]⟩
            have HIP : Hid (x.inP p = noP) := by show _ = _; unfold No.inP; rw [if_neg (by rw [HIE.out, HB.out.1]; exact hbe)]
            have hgt : (0 : Int) < ((bgnE p.pr p.fl : Nat) : Int) := by omega
            clear hbe
            generalize hbb : bgnE p.pr p.fl = be at *
            obtain ⟨w9, hst0, hz9, hc9⟩ := pkz_store Z5.out noP
            have hst : (Instr.storeAt 50 (.pointer (some ⟨Q, 0, none⟩)) (.agg #[.int .i64 0, .int .i64 0, .int .i64 0, .int .i64 0, .int .i64 0, .int .i64 0])).run Tryz.prog w5 = .ok () w9 := hst0
            obtain ⟨n9, k9⟩ := HN.out.fresh N5.out X5.out hc9 (by omega)
            have N9 : Hid (RNd w0 w9 r x q lo i _) := n9
            have K9 : Hid (ChgL r.all w w9) := k9
            have Z9 : Hid (PkZ w9 Q noP) := hz9
            clear n9 k9 hz9 hc9 hst0
            go_wp2_with (refine wpList_store_eq rfl 50 _ _ rfl _ _ _ rfl rfl hst ?_)
            clear hst
            have qz := Z9.out.b
            go_wp2_with fail
            exact bodyPost_ret (v := .tuple #[noP.v, .int .i64 (be : Nat)]) (by simp [results, Tryz.results41, go_sem, qz.c0, qz.c1, qz.c2, qz.c3, qz.c4, qz.c5, Pk.v, noP]) rfl ⟨by rw [HIP.out, HIE.out, HB.out.1]; try rfl, by rw [HX.out, HB.out.2]; exact N9.out.vers, K9.out⟩
          · rw [hbe]
            obtain ⟨st, hst⟩ : ∃ st, bgnS p.pr p.fl = st := ⟨_, rfl⟩
            have HST : Hid (bgnS p.pr p.fl = st) := hst
            rw [hst]
            have HBE : Hid (x.bgE p = (x.addR p).2.1) := by show _ = _; unfold No.bgE; rw [HAD.out, if_pos hbe]; rfl
            clear hst hbe HAD
            go_wp2_with fail
            have HTU : Hid (∀ u, Calls Tryz.prog 80 #[.int .i64 p.pr, .int .i64 st] u fun e w' => e = .returned (.int .i64 (stay p.pr st)) ∧ w' = u) := fun u => timeOf_any p.pr st u
            have hsl := stay_le p.pr st
            have hwr : IntKind.i64.wrap (x.now + stay p.pr st) = x.now + stay p.pr st := by
              have := HW.out
              rw [IntKind.wrap_i64]; omega
            have HAR : Hid (x.addR p = addT x.T x.low p.pr p.a1 p.p1 p.a2 p.p2 st (x.now + stay p.pr st)) := by show _ = _; unfold No.addR; rw [HST.out]
            have hS : w5.drew.cell? ⟨r.nd, 4, none⟩ = some (.pointer (some ⟨r.tb, 0, none⟩)) ∧ w5.drew.cell? ⟨r.nd, 1, none⟩ = some (.int .i64 x.now) ∧ w5.drew.cell? ⟨P, 0, none⟩ = some (.int .i64 p.pr) ∧ w5.drew.cell? ⟨P, 1, none⟩ = some (.int .i64 p.a1) ∧ w5.drew.cell? ⟨P, 2, none⟩ = some (.int .i64 p.p1) ∧ w5.drew.cell? ⟨P, 3, none⟩ = some (.int .i64 p.a2) ∧ w5.drew.cell? ⟨P, 4, none⟩ = some (.int .i64 p.p2) := ⟨N5.out.nd.b4, N5.out.nd.b1, P5.out.b.c0, P5.out.b.c1, P5.out.b.c2, P5.out.b.c3, P5.out.b.c4⟩
            have D5 : Hid (RNd w0 w5.drew r x q lo i m) := N5.out.below (Below.refl _ _).drew
            go_region_held3 (fun w' => w'.cell? ⟨r.nd, 4, none⟩ = some (.pointer (some ⟨r.tb, 0, none⟩)) ∧ w'.cell? ⟨r.nd, 1, none⟩ = some (.int .i64 x.now) ∧ w'.cell? ⟨P, 0, none⟩ = some (.int .i64 p.pr) ∧ w'.cell? ⟨P, 1, none⟩ = some (.int .i64 p.a1) ∧ w'.cell? ⟨P, 2, none⟩ = some (.int .i64 p.p1) ∧ w'.cell? ⟨P, 3, none⟩ = some (.int .i64 p.a2) ∧ w'.cell? ⟨P, 4, none⟩ = some (.int .i64 p.p2))
              (first | assumption | exact ⟨n7.nd.b4, n7.nd.b1, k7.keeps HNP.out hS.2.2.1, k7.keeps HNP.out hS.2.2.2.1, k7.keeps HNP.out hS.2.2.2.2.1, k7.keeps HNP.out hS.2.2.2.2.2.1, k7.keeps HNP.out hS.2.2.2.2.2.2⟩)
              (first
                | (go_at_call 80; refine (HTU.out _).mono ?_; rintro e w6 ⟨rfl, rfl⟩)
                | (go_at_call 79; refine (radd_rn D5.out HW.out.2.2 p.pr p.a1 p.p1 p.a2 p.p2 st (x.now + stay p.pr st)).mono ?_; rintro e w7 ⟨rfl, n7, k7⟩))
            rw [← HAR.out] at n7 ⊢
            have N7 : Hid (RNd w0 w7 r { x with T := (x.addR p).2.2 } q lo i (m + 1)) := n7
            have X7 : Hid (ChgL r.all w w7) := (X5.out.trans (ChgL.of (Below.refl _ _).drew)).trans k7
            have P7 : Hid (PkZ w7 P p) := (P5.out.below (Below.refl _ _).drew).chgL k7 HNP.out
            have Z7 : Hid (PkZ w7 Q noP) := (Z5.out.below (Below.refl _ _).drew).chgL k7 HNQ.out
            have F7 : Hid (FlZ w7 F noC) := (F5.out.below (Below.refl _ _).drew).chgL k7 HNF.out
            clear n7 k7 hS D5 hwr hsl N5 X5 P5 Z5 F5
            by_cases hae : (x.addR p).2.1 = 0
            rotate_left
            · have e : (x.addR p).2.2 = x.T := addT_keeps hae
              have n8 := N7.out
              rw [e] at n8
              have N8 : Hid (RNd w0 w7 r x q lo i (m + 1)) := n8
              have HB : Hid (x.bgE p = (x.addR p).2.1 ∧ x.bg p = x) := ⟨HBE.out, by unfold No.bg; rw [if_neg (by rw [HBE.out]; exact hae)]⟩
              have HIP : Hid (x.inP p = noP) := by show _ = _; unfold No.inP; rw [if_neg (by rw [HIE.out, HB.out.1]; exact hae)]
              have hgt : (0 : Int) < (((x.addR p).2.1 : Nat) : Int) := by omega
              clear hae e n8 N7 HAR HBE
              generalize (x.addR p).2.1 = ae at *
              obtain ⟨w9, hst0, hz9, hc9⟩ := pkz_store Z7.out noP
              have hst : (Instr.storeAt 50 (.pointer (some ⟨Q, 0, none⟩)) (.agg #[.int .i64 0, .int .i64 0, .int .i64 0, .int .i64 0, .int .i64 0, .int .i64 0])).run Tryz.prog w7 = .ok () w9 := hst0
              obtain ⟨n9, k9⟩ := HN.out.fresh N8.out X7.out hc9 (by omega)
              have N9 : Hid (RNd w0 w9 r x q lo i (m + 1)) := n9
              have K9 : Hid (ChgL r.all w w9) := k9
              have Z9 : Hid (PkZ w9 Q noP) := hz9
              clear n9 k9 hz9 hc9 hst0
              go_wp2_with (refine wpList_store_eq rfl 50 _ _ rfl _ _ _ rfl rfl hst ?_)
              clear hst
              have qz := Z9.out.b
              go_wp2_with fail
              exact bodyPost_ret (v := .tuple #[noP.v, .int .i64 (ae : Nat)]) (by simp [results, Tryz.results41, go_sem, qz.c0, qz.c1, qz.c2, qz.c3, qz.c4, qz.c5, Pk.v, noP]) rfl ⟨by rw [HIP.out, HIE.out, HB.out.1], by rw [HX.out, HB.out.2]; exact N9.out, K9.out⟩
            · have HB : Hid (x.bgE p = 0 ∧ x.bg p = { x with T := (x.addR p).2.2 } ∧ x.bgF p = (x.addR p).2.2 (x.addR p).1) := by
                have h8 : x.bgE p = 0 := by rw [HBE.out]; exact hae
                exact ⟨h8, by unfold No.bg; rw [if_pos h8], by unfold No.bgF; rw [if_pos h8]⟩
              have hk : (x.addR p).1 < 32 := addT_slot hae
              rw [hae]
              obtain ⟨k, hkk⟩ : ∃ k, (x.addR p).1 = k := ⟨_, rfl⟩
              obtain ⟨c, hc⟩ : ∃ c, (x.addR p).2.2 k = c := ⟨_, rfl⟩
              rw [hkk] at hk ⊢
              have HCC : Hid (x.ouF p = c) := by show _ = _; rw [HOE.out.2.2, HB.out.2.2, hkk, hc]
              have HIE0 := HIE
              clear HIE
              have HIE : Hid (x.inE p = 0) := by show _ = _; rw [HIE0.out, HB.out.1]
              have HIP : Hid (x.inP p = ⟨p.pr, 1, c.po, p.a2, p.p2, p.fl⟩) := by show _ = _; unfold No.inP; rw [if_pos HIE.out, HCC.out]
              have HX0 := HX
              clear HX
              have HX : Hid (x.ins p = { x with T := (x.addR p).2.2 }) := by show _ = _; rw [HX0.out, HB.out.2.1]
              have b4 := N7.out.nd.b4
              have l1 := N7.out.tb.c1
              have z2 := N7.out.tb.sl.at' (i := k) (k := 2) hk (by omega)
              have z3 := N7.out.tb.sl.at' (i := k) (k := 3) hk (by omega)
              have z4 := N7.out.tb.sl.at' (i := k) (k := 4) hk (by omega)
              have z5 := N7.out.tb.sl.at' (i := k) (k := 5) hk (by omega)
              have z6 := N7.out.tb.sl.at' (i := k) (k := 6) hk (by omega)
              have z7 := N7.out.tb.sl.at' (i := k) (k := 7) hk (by omega)
              have z8 := N7.out.tb.sl.at' (i := k) (k := 8) hk (by omega)
              have z9 := N7.out.tb.sl.at' (i := k) (k := 9) hk (by omega)
              simp only [hc, Ce.get] at z2 z3 z4 z5 z6 z7 z8 z9
              have i0 : (0 : Int) ≤ (k : Int) := by omega
              have i1 : (k : Int) < 32 := by omega
              obtain ⟨w8, hst, hf8, hc8⟩ := flz_store F7.out c
              obtain ⟨n8, k8⟩ := HN.out.fresh N7.out X7.out hc8 (by have := HFB.out; omega)
              have N8 : Hid (RNd w0 w8 r { x with T := (x.addR p).2.2 } q lo i (m + 1)) := n8
              have X8 : Hid (ChgL r.all w w8) := k8
              have P8 : Hid (PkZ w8 P p) := P7.out.chgL (ChgL.one (l := [F]) hc8 (by simp)) (by have := HFB.out; simp; omega)
              have Z8 : Hid (PkZ w8 Q noP) := Z7.out.chgL (ChgL.one (l := [F]) hc8 (by simp)) (by have := HFB.out; simp; omega)
              have F8 : Hid (FlZ w8 F c) := hf8
              clear n8 k8 hf8 hc8 N7 X7 P7 Z7 F7 hae hkk hc
              have g5 := F8.out.b.c5
              obtain ⟨r0, r1, r2, r3, r4, r5⟩ := P8.out.b
              have pf := P8.out.fr
              have hcg := set_chg2 w8 P 1 2 (.int .i64 1) (.int .i64 c.po)
              have ZA : Hid (PkZ ((w8.setCell ⟨P, 1, none⟩ (.int .i64 1)).setCell ⟨P, 2, none⟩ (.int .i64 c.po)) Q noP) := Z8.out.chgL (ChgL.one (l := [P]) hcg (by simp)) (by simp; omega)
              obtain ⟨nA, kA⟩ := HN.out.fresh N8.out X8.out hcg (by omega)
              obtain ⟨w9, hst2, hz9, hc9⟩ := pkz_store ZA.out ⟨p.pr, 1, c.po, p.a2, p.p2, p.fl⟩
              simp only at hst2
              obtain ⟨n9, k9⟩ := HN.out.fresh nA kA hc9 (by omega)
              have N9 : Hid (RNd w0 w9 r { x with T := (x.addR p).2.2 } q lo i (m + 1)) := n9
              have K9 : Hid (ChgL r.all w w9) := k9
              have Z9 : Hid (PkZ w9 Q ⟨p.pr, 1, c.po, p.a2, p.p2, p.fl⟩) := hz9
              clear n9 k9 hz9 hc9 nA kA hcg
              go_wp2_with (first | refine wpList_store_eq rfl 136 _ _ rfl _ _ _ rfl rfl hst ?_ | refine wpList_store_eq rfl 50 _ _ rfl _ _ _ rfl rfl hst2 ?_)
              clear hst2 g5 r0 r1 r2 r3 r4 r5 pf
              have qz := Z9.out.b
              go_wp2_with fail
              exact bodyPost_ret (v := .tuple #[Pk.v ⟨p.pr, 1, c.po, p.a2, p.p2, p.fl⟩, .int .i64 0]) (by simp [results, Tryz.results41, go_sem, qz.c0, qz.c1, qz.c2, qz.c3, qz.c4, qz.c5, Pk.v]) rfl ⟨by rw [HIP.out, HIE.out]; rfl, by rw [HX.out]; exact N9.out, K9.out⟩
end
end Go.Proofs.YtifjoboaolpejaaGreatDoor

namespace Go.Proofs.YtifjoboaolpejaaGreatDoor
open Go.RowKit

section
variable {w0 w : World} {r : RBk} {x : No} {q : Ro} {lo i : Int} {m : Nat}
set_option maxRecDepth 100000 in
set_option maxHeartbeats 4000000 in
theorem routside_rn (h : RNd w0 w r x q lo i m) (hm : m ≤ 1000000000) (h0 : 0 ≤ x.now) (h1 : x.now ≤ 1000000000) (p : Pk) :
    Calls Tryz.prog 43 #[.pointer (some ⟨r.nd, 0, none⟩), p.v] w fun e w' => e = .returned (.tuple #[(x.otP p).v, .int .i64 (x.otE p : Nat)]) ∧ RNd w0 w' r (x.ots p) q lo i (m + 1) ∧ ChgL r.all w w' := by
  have HN : Hid (RNd w0 w r x q lo i m) := h
  have HW : Hid (0 ≤ x.now ∧ x.now ≤ 1000000000 ∧ m ≤ 1000000000) := ⟨h0, h1, hm⟩
  clear h h0 h1 hm
  go_enter Tryz.func43, Tryz.ntmps43
  go_wp2_with fail
  have P1 : Hid (PkZ ((w.alloc (.cells #[.int .i64 p.pr, .int .i64 p.a1, .int .i64 p.p1, .int .i64 p.a2, .int .i64 p.p2, .int .i64 p.fl] 50)).alloc (.cells #[.int .i64 0, .int .i64 0, .int .i64 0, .int .i64 0, .int .i64 0, .int .i64 0] 50)) w.heap.size p) := (PkZ.new w p).below (aB _ _)
  have B1 : Hid (Below w.heap.size w ((w.alloc (.cells #[.int .i64 p.pr, .int .i64 p.a1, .int .i64 p.p1, .int .i64 p.a2, .int .i64 p.p2, .int .i64 p.fl] 50)).alloc (.cells #[.int .i64 0, .int .i64 0, .int .i64 0, .int .i64 0, .int .i64 0, .int .i64 0] 50))) := t2 (aB _ _) (aB _ _)
  have Z1 : Hid (PkZ ((w.alloc (.cells #[.int .i64 p.pr, .int .i64 p.a1, .int .i64 p.p1, .int .i64 p.a2, .int .i64 p.p2, .int .i64 p.fl] 50)).alloc (.cells #[.int .i64 0, .int .i64 0, .int .i64 0, .int .i64 0, .int .i64 0, .int .i64 0] 50)) (w.heap.size + 1) noP) := by
    have := PkZ.zero (w.alloc (.cells #[.int .i64 p.pr, .int .i64 p.a1, .int .i64 p.p1, .int .i64 p.a2, .int .i64 p.p2, .int .i64 p.fl] 50))
    show PkZ _ _ _
    simpa using this
  generalize ((w.alloc (.cells #[.int .i64 p.pr, .int .i64 p.a1, .int .i64 p.p1, .int .i64 p.a2, .int .i64 p.p2, .int .i64 p.fl] 50)).alloc (.cells #[.int .i64 0, .int .i64 0, .int .i64 0, .int .i64 0, .int .i64 0, .int .i64 0] 50)) = w1 at *
  generalize hPe : w.heap.size = P at P1 Z1 ⊢
  generalize hQe : P + 1 = Q at Z1 ⊢
  have HNQ : Hid (¬ Q ∈ r.all) := fun hm => by have := HN.out.blk _ hm; omega
  have HNP : Hid (¬ P ∈ r.all) := fun hm => by have := HN.out.blk _ hm; omega
  refine (perr_any p.pr p.a1 p.p1 p.a2 p.p2 p.fl w1).mono ?_
  rintro e w2 ⟨rfl, hb2⟩
  have B2 : Hid (Below w.heap.size w w2) := t2 B1.out hb2
  have N2 : Hid (RNd w0 w2 r x q lo i m) := HN.out.below B2.out
  have P2 : Hid (PkZ w2 P p) := P1.out.below hb2
  have Z2 : Hid (PkZ w2 Q noP) := Z1.out.below hb2
  clear hb2 B1 P1 Z1
  have hpe : (pkErr p.pr p.a1 p.p1 p.a2 p.p2 p.fl : Nat) = p.err := rfl
  rw [hpe]
  clear hpe
  by_cases he : p.err = 0
  rotate_left
  · have HC : Hid (x.chk p = p.err ∧ p.err ≠ 0) := ⟨by unfold No.chk; rw [if_neg he], he⟩
    have HJ : Hid (x.otJ p = none) := by show _ = _; unfold No.otJ; rw [if_neg (by rw [HC.out.1]; exact he)]
    have HIE : Hid (x.otE p = p.err) := by show _ = _; unfold No.otE; rw [if_neg (by rw [HC.out.1]; exact he), HC.out.1]
    have HIP : Hid (x.otP p = noP) := by show _ = _; unfold No.otP; rw [HJ.out]
    have HX : Hid (x.ots p = x) := by show _ = _; unfold No.ots; rw [HJ.out]
    have hgt : (0 : Int) < (p.err : Int) := by omega
    clear he
    obtain ⟨w9, hst0, hz9, hc9⟩ := pkz_store Z2.out noP
    have hst : (Instr.storeAt 50 (.pointer (some ⟨Q, 0, none⟩)) (.agg #[.int .i64 0, .int .i64 0, .int .i64 0, .int .i64 0, .int .i64 0, .int .i64 0])).run Tryz.prog w2 = .ok () w9 := hst0
    obtain ⟨n9, k9⟩ := HN.out.fresh N2.out (ChgL.of B2.out) hc9 (by omega)
    have N9 : Hid (RNd w0 w9 r x q lo i _) := n9
    have K9 : Hid (ChgL r.all w w9) := k9
    have Z9 : Hid (PkZ w9 Q noP) := hz9
    clear n9 k9 hz9 hc9 hst0
    go_wp2_with (refine wpList_store_eq rfl 50 _ _ rfl _ _ _ rfl rfl hst ?_)
    clear hst
    have qz := Z9.out.b
    go_wp2_with fail
    exact bodyPost_ret (v := .tuple #[noP.v, .int .i64 (p.err : Nat)]) (by simp [results, Tryz.results43, go_sem, qz.c0, qz.c1, qz.c2, qz.c3, qz.c4, qz.c5, Pk.v, noP]) rfl ⟨by rw [HIP.out, HIE.out]; try rfl, by rw [HX.out]; exact N9.out.vers, K9.out⟩
  · rw [he]
    by_cases ha : x.ro.ac = true
    rotate_left
    · have ha' : x.ro.ac = false := by simpa using ha
      have HC : Hid (x.chk p = 9) := by show _ = _; unfold No.chk; rw [if_pos he, ha']; rfl
      have HJ : Hid (x.otJ p = none) := by show _ = _; unfold No.otJ; rw [if_neg (by rw [HC.out]; omega)]
      have HIE : Hid (x.otE p = 9) := by show _ = _; unfold No.otE; rw [if_neg (by rw [HC.out]; omega), HC.out]
      have HIP : Hid (x.otP p = noP) := by show _ = _; unfold No.otP; rw [HJ.out]
      have HX : Hid (x.ots p = x) := by show _ = _; unfold No.ots; rw [HJ.out]
      have b3 := N2.out.nd.b3
      have a3 := N2.out.ro.c3
      rw [N2.out.sm.ac, ha'] at a3
      clear ha ha' he
      obtain ⟨w9, hst0, hz9, hc9⟩ := pkz_store Z2.out noP
      have hst : (Instr.storeAt 50 (.pointer (some ⟨Q, 0, none⟩)) (.agg #[.int .i64 0, .int .i64 0, .int .i64 0, .int .i64 0, .int .i64 0, .int .i64 0])).run Tryz.prog w2 = .ok () w9 := hst0
      obtain ⟨n9, k9⟩ := HN.out.fresh N2.out (ChgL.of B2.out) hc9 (by omega)
      have N9 : Hid (RNd w0 w9 r x q lo i _) := n9
      have K9 : Hid (ChgL r.all w w9) := k9
      have Z9 : Hid (PkZ w9 Q noP) := hz9
      clear n9 k9 hz9 hc9 hst0
      go_wp2_with (refine wpList_store_eq rfl 50 _ _ rfl _ _ _ rfl rfl hst ?_)
      clear hst
      have qz := Z9.out.b
      go_wp2_with fail
      exact bodyPost_ret (v := .tuple #[noP.v, .int .i64 9]) (by simp [results, Tryz.results43, go_sem, qz.c0, qz.c1, qz.c2, qz.c3, qz.c4, qz.c5, Pk.v, noP]) rfl ⟨by rw [HIP.out, HIE.out]; try rfl, by rw [HX.out]; exact N9.out.vers, K9.out⟩
    · have b3 := N2.out.nd.b3
      have a3 := N2.out.ro.c3
      rw [N2.out.sm.ac, ha] at a3
      obtain ⟨r0, r1, r2, r3, r4, r5⟩ := P2.out.b
      have HC : Hid (x.chk p = 0) := by show _ = _; unfold No.chk; rw [if_pos he, ha]; rfl
      clear ha he
      by_cases hpu : p.a2 = 1
      rotate_left
      · have hpq : (p.a2 == 1) = false := beq_eq_false_iff_ne.2 hpu
        have HJ : Hid (x.otJ p = none) := by show _ = _; unfold No.otJ; rw [if_pos HC.out, if_neg hpu]
        have HIE : Hid (x.otE p = 3) := by show _ = _; unfold No.otE; rw [if_pos HC.out, if_neg hpu]
        have HIP : Hid (x.otP p = noP) := by show _ = _; unfold No.otP; rw [HJ.out]
        have HX : Hid (x.ots p = x) := by show _ = _; unfold No.ots; rw [HJ.out]
        clear hpu
        obtain ⟨w9, hst0, hz9, hc9⟩ := pkz_store Z2.out noP
        have hst : (Instr.storeAt 50 (.pointer (some ⟨Q, 0, none⟩)) (.agg #[.int .i64 0, .int .i64 0, .int .i64 0, .int .i64 0, .int .i64 0, .int .i64 0])).run Tryz.prog w2 = .ok () w9 := hst0
        obtain ⟨n9, k9⟩ := HN.out.fresh N2.out (ChgL.of B2.out) hc9 (by omega)
        have N9 : Hid (RNd w0 w9 r x q lo i _) := n9
        have K9 : Hid (ChgL r.all w w9) := k9
        have Z9 : Hid (PkZ w9 Q noP) := hz9
        clear n9 k9 hz9 hc9 hst0
        go_wp2_with (refine wpList_store_eq rfl 50 _ _ rfl _ _ _ rfl rfl hst ?_)
        clear hst
        have qz := Z9.out.b
        go_wp2_with fail
        exact bodyPost_ret (v := .tuple #[noP.v, .int .i64 3]) (by simp [results, Tryz.results43, go_sem, qz.c0, qz.c1, qz.c2, qz.c3, qz.c4, qz.c5, Pk.v, noP]) rfl ⟨by rw [HIP.out, HIE.out]; try rfl, by rw [HX.out]; exact N9.out.vers, K9.out⟩
      have hpq : (p.a2 == 1) = true := by simp [hpu]
      have HOJ : Hid (x.otJ p = x.bck p) := by show _ = _; unfold No.otJ; rw [if_pos HC.out, if_pos hpu]
      have HPU : Hid (p.a2 = 1) := hpu
      clear hpu
      go_wp2_with fail
      have b4 := N2.out.nd.b4
      clear b3 a3 r5 hpq
      have hS : w2.drew.cell? ⟨r.nd, 4, none⟩ = some (.pointer (some ⟨r.tb, 0, none⟩)) ∧ w2.drew.cell? ⟨P, 0, none⟩ = some (.int .i64 p.pr) ∧ w2.drew.cell? ⟨P, 1, none⟩ = some (.int .i64 p.a1) ∧ w2.drew.cell? ⟨P, 2, none⟩ = some (.int .i64 p.p1) ∧ w2.drew.cell? ⟨P, 4, none⟩ = some (.int .i64 p.p2) := ⟨b4, r0, r1, r2, r4⟩
      have D2 : Hid (RNd w0 w2.drew r x q lo i m) := N2.out.below (Below.refl _ _).drew
      go_region_held3 (fun w' => w'.cell? ⟨r.nd, 4, none⟩ = some (.pointer (some ⟨r.tb, 0, none⟩)) ∧ w'.cell? ⟨P, 0, none⟩ = some (.int .i64 p.pr) ∧ w'.cell? ⟨P, 1, none⟩ = some (.int .i64 p.a1) ∧ w'.cell? ⟨P, 2, none⟩ = some (.int .i64 p.p1) ∧ w'.cell? ⟨P, 4, none⟩ = some (.int .i64 p.p2))
        (first | assumption | exact ⟨tk hb3 hS.1, tk hb3 hS.2.1, tk hb3 hS.2.2.1, tk hb3 hS.2.2.2.1, tk hb3 hS.2.2.2.2⟩)
        (first
          | (go_at_call 83; refine (rback_rn D2.out p.pr p.p2 p.a1 p.p1).mono ?_; rintro e w3 ⟨rfl, hb3⟩))
      have B3 : Hid (Below w.heap.size w w3) := t2 (t2 B2.out (Below.refl _ _).drew) hb3
      have N3 : Hid (RNd w0 w3 r x q lo i m) := HN.out.below B3.out
      have P3 : Hid (PkZ w3 P p) := (P2.out.below (Below.refl _ _).drew).below hb3
      have Z3 : Hid (PkZ w3 Q noP) := (Z2.out.below (Below.refl _ _).drew).below hb3
      clear hb3 hS b4 r0 r1 r2 r3 r4 D2 N2 P2 Z2 B2
      obtain ⟨o, ho⟩ : ∃ o, fst x.T (backQ p.pr p.p2 p.a1 p.p1) = o := ⟨_, rfl⟩
      have HF : Hid (x.bck p = o) := ho
      rw [ho]
      have ho' := ho
      clear ho
      cases o with
      | none =>
        clear ho'
        simp only [foundI]
        have HJ : Hid (x.otJ p = none) := HOJ.out.trans HF.out
        have HIE : Hid (x.otE p = 4) := by show _ = _; unfold No.otE; rw [if_pos HC.out, if_pos HPU.out, HF.out]
        have HIP : Hid (x.otP p = noP) := by show _ = _; unfold No.otP; rw [HJ.out]
        have HX : Hid (x.ots p = x) := by show _ = _; unfold No.ots; rw [HJ.out]
        obtain ⟨w9, hst0, hz9, hc9⟩ := pkz_store Z3.out noP
        have hst : (Instr.storeAt 50 (.pointer (some ⟨Q, 0, none⟩)) (.agg #[.int .i64 0, .int .i64 0, .int .i64 0, .int .i64 0, .int .i64 0, .int .i64 0])).run Tryz.prog w3 = .ok () w9 := hst0
        obtain ⟨n9, k9⟩ := HN.out.fresh N3.out (ChgL.of B3.out) hc9 (by omega)
        have N9 : Hid (RNd w0 w9 r x q lo i _) := n9
        have K9 : Hid (ChgL r.all w w9) := k9
        have Z9 : Hid (PkZ w9 Q noP) := hz9
        clear n9 k9 hz9 hc9 hst0
        go_wp2_with (refine wpList_store_eq rfl 50 _ _ rfl _ _ _ rfl rfl hst ?_)
        clear hst
        have qz := Z9.out.b
        go_wp2_with fail
        exact bodyPost_ret (v := .tuple #[noP.v, .int .i64 4]) (by simp [results, Tryz.results43, go_sem, qz.c0, qz.c1, qz.c2, qz.c3, qz.c4, qz.c5, Pk.v, noP]) rfl ⟨by rw [HIP.out, HIE.out]; try rfl, by rw [HX.out]; exact N9.out.vers, K9.out⟩
      | some j =>
        have hj : j < 32 := fst_lt ho'
        clear ho'
        simp only [foundI]
        have g0 : ¬ (j : Int) < 0 := by omega
        obtain ⟨s0, s1, s2, s3, s4, s5⟩ := P3.out.b
        go_wp2_with fail
        clear s0 s1 s2 s3 s4 s5
        refine (rpass_rn N3.out HW.out.2.2 HW.out.1 HW.out.2.1 j hj p.fl false).mono ?_
        rintro e w6 ⟨rfl, n6, k6⟩
        have N6 : Hid (RNd w0 w6 r (x.stp j p.fl false) q lo i (m + 1)) := n6
        have X6 : Hid (ChgL r.all w w6) := (ChgL.of B3.out).trans k6
        have P6 : Hid (PkZ w6 P p) := P3.out.chgL k6 HNP.out
        have Z6 : Hid (PkZ w6 Q noP) := Z3.out.chgL k6 HNQ.out
        clear n6 k6 N3 P3 Z3 B3
        obtain ⟨c, hcc⟩ : ∃ c, x.T j = c := ⟨_, rfl⟩
        have HCC : Hid (x.T j = c) := hcc
        rw [hcc]
        clear hcc
        have HJ : Hid (x.otJ p = some j) := HOJ.out.trans HF.out
        have HIE : Hid (x.otE p = 0) := by show _ = _; unfold No.otE; rw [if_pos HC.out, if_pos HPU.out, HF.out]
        have HIP : Hid (x.otP p = ⟨p.pr, p.a1, p.p1, c.ia, c.ip, p.fl⟩) := by show _ = _; unfold No.otP; rw [HJ.out]; simp only [HCC.out]
        have HX : Hid (x.ots p = x.stp j p.fl false) := by show _ = _; unfold No.ots; rw [HJ.out]
        simp only [flowV]
        have hfd : ∀ u, (Instr.field 136 (.agg #[.int .i64 c.pr, .int .i64 c.ia, .int .i64 c.ip, .int .i64 c.fa, .int .i64 c.fp, .int .i64 c.po, .int .i64 c.st, .int .i64 c.un]) 1).run Tryz.prog u = .ok (.agg #[.int .i64 c.ia, .int .i64 c.ip]) u := fun u => by kernel_rfl
        have hfd6 := hfd w6
        obtain ⟨r0, r1, r2, r3, r4, r5⟩ := P6.out.b
        have pf := P6.out.fr
        have hcg := set_chg2 w6 P 3 4 (.int .i64 c.ia) (.int .i64 c.ip)
        have ZA : Hid (PkZ ((w6.setCell ⟨P, 3, none⟩ (.int .i64 c.ia)).setCell ⟨P, 4, none⟩ (.int .i64 c.ip)) Q noP) := Z6.out.chgL (ChgL.one (l := [P]) hcg (by simp)) (by simp; omega)
        obtain ⟨nA, kA⟩ := HN.out.fresh N6.out X6.out hcg (by omega)
        obtain ⟨w9, hst2, hz9, hc9⟩ := pkz_store ZA.out ⟨p.pr, p.a1, p.p1, c.ia, c.ip, p.fl⟩
        simp only at hst2
        obtain ⟨n9, k9⟩ := HN.out.fresh nA kA hc9 (by omega)
        have N9 : Hid (RNd w0 w9 r (x.stp j p.fl false) q lo i (m + 1)) := n9
        have K9 : Hid (ChgL r.all w w9) := k9
        have Z9 : Hid (PkZ w9 Q ⟨p.pr, p.a1, p.p1, c.ia, c.ip, p.fl⟩) := hz9
        clear n9 k9 hz9 hc9 nA kA hcg hfd
        go_wp2_with (refine wpList_store_eq rfl 50 _ _ rfl _ _ _ rfl rfl hst2 ?_)
        clear hst2 r0 r1 r2 r3 r4 r5 pf
        have qz := Z9.out.b
        go_wp2_with fail
        exact bodyPost_ret (v := .tuple #[Pk.v ⟨p.pr, p.a1, p.p1, c.ia, c.ip, p.fl⟩, .int .i64 0]) (by simp [results, Tryz.results43, go_sem, qz.c0, qz.c1, qz.c2, qz.c3, qz.c4, qz.c5, Pk.v]) rfl ⟨by rw [HIP.out, HIE.out]; rfl, by rw [HX.out]; exact N9.out, K9.out⟩
end
end Go.Proofs.YtifjoboaolpejaaGreatDoor
