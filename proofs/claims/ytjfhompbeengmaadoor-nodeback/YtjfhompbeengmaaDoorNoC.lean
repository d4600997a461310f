/-
  Package node's until, adopt, claim.
-/
import Derived.Test.YtjfhompbeengmaaDoorNoB
import Derived.Deep.RegionHeld3
namespace Go.Proofs.YtjfhompbeengmaaDoor
open Go.RowKit

set_option maxRecDepth 100000 in
set_option maxHeartbeats 2000000 in
theorem until_nd {w0 w : World} {k : Bk} {x : No} {m n : Nat} (h : Nd w0 w k x m n) (pr st : Int) (hp : In6 pr) (hs : In6 st) (h0 : 0 ≤ x.now) (h1 : x.now ≤ 1000000000) :
    Calls Tryd.prog 56 #[.pointer (some ⟨k.nd, 0, none⟩), .int .i64 pr, .int .i64 st] w fun e w' => e = .returned (.int .i64 (x.now + stay pr st)) ∧ Below w.heap.size w w' := by
  have HN : Hid (Nd w0 w k x m n) := h
  have HT : Hid (∀ u, Calls Tryd.prog 73 #[.int .i64 pr, .int .i64 st] u fun e w' => e = .returned (.int .i64 (stay pr st)) ∧ Below u.heap.size u w') := fun u => time_any pr st u hp.wf hs.wf
  have hq := stay_le pr st
  generalize stay pr st = t at *
  have hw : IntKind.i64.wrap (x.now + t) = x.now + t := by rw [IntKind.wrap_i64]; omega
  clear h hp hs h0 h1 hq
  generalize hnow : x.now = now at *
  have c3 : w.cell? ⟨k.nd, 3, none⟩ = some (.int .i64 now) := hnow ▸ HN.out.c3
  clear hnow
  go_enter Tryd.func56, Tryd.ntmps56
  have hS : w.drew.cell? ⟨k.nd, 3, none⟩ = some (.int .i64 now) ∧ Below w.heap.size w w.drew := ⟨c3, (Below.refl _ _).drew⟩
  go_wp2_with fail
  go_region_held3 (fun w' => w'.cell? ⟨k.nd, 3, none⟩ = some (.int .i64 now) ∧ Below w.heap.size w w') (first | assumption | exact ⟨tk hb1 hS.1, t2 hS.2 hb1⟩)
    (first | (go_at_call 73; refine (HT.out _).mono ?_; rintro e w1 ⟨rfl, hb1⟩))
  have B1 : Hid (Below w.heap.size w w1) := t2 hS.2 hb1
  go_wp2_with fail
  go_ret
  exact ⟨rfl, B1.out⟩

/-- flows in a slice, none of them in a node's blocks. -/
def FlR (w : World) (v : Value) (L : List Ce) (bs : List Nat) : Prop := ∃ p cap, v = .slice p L.length cap ∧ ∀ (i : Nat) c, L[i]? = some c → ∃ g, p = some ⟨g, 0, none⟩ ∧ (¬ g ∈ bs) ∧ ∀ (j : Nat) u, (flC c)[j]? = some u → w.cell? ⟨g, i * 8 + j, none⟩ = some u
theorem FlR.of_own {w : World} {base : Nat} {v : Value} {L : List Ce} {bs : List Nat} (h : w.ownsRow base 77 8 v L.length (flCs L)) (hb : ∀ b ∈ bs, b < base) : FlR w v L bs := by
  have hlt := h.lt
  obtain ⟨h1, h2⟩ := h
  rcases h2 with ⟨rfl, h0⟩ | ⟨g, cap, cur, rfl, q1, hh, q2, q3, q4, ht⟩
  · refine ⟨none, 0, by rw [h0], fun j x hx => ?_⟩
    obtain ⟨hlt, _⟩ := List.getElem?_eq_some_iff.1 hx
    omega
  · refine ⟨some ⟨g, 0, none⟩, cap, rfl, fun i c hc => ⟨g, rfl, fun hm => ?_, fun j u hu => ?_⟩⟩
    · have := hb g hm
      have := (hlt g rfl).1
      omega
    · have h3 := flCs_at L i j c u hc hu
      have hj : j < 8 := (List.getElem?_eq_some_iff.1 hu).1
      have hi := (List.getElem?_eq_some_iff.1 hc).1
      rw [← ht, List.getElem?_take, if_pos (by omega), Array.getElem?_toList] at h3
      rw [cell_of_row w g _ _ _ _ hh]
      exact h3
theorem FlR.chg {w w' : World} {v : Value} {L : List Ce} {bs : List Nat} (h : FlR w v L bs) (c : ChgL bs w w') : FlR w' v L bs := by
  obtain ⟨p, cap, e, hh⟩ := h
  refine ⟨p, cap, e, fun i c' hc => ?_⟩
  obtain ⟨g, e1, e2, e3⟩ := hh i c' hc
  exact ⟨g, e1, e2, fun j u hu => c.keeps e2 (e3 j u hu)⟩
theorem FlB.un {w : World} {Z : Nat} {c : Ce} (h : FlB w Z c) (u : Int) : FlB (w.setCell ⟨Z, 7, none⟩ (.int .i64 u)) Z { c with un := u } :=
  ⟨by rw [World.cell?_setCell_other _ _ _ _ (by simp)]; exact h.c0, by rw [World.cell?_setCell_other _ _ _ _ (by simp)]; exact h.c1, by rw [World.cell?_setCell_other _ _ _ _ (by simp)]; exact h.c2, by rw [World.cell?_setCell_other _ _ _ _ (by simp)]; exact h.c3, by rw [World.cell?_setCell_other _ _ _ _ (by simp)]; exact h.c4, by rw [World.cell?_setCell_other _ _ _ _ (by simp)]; exact h.c5, by rw [World.cell?_setCell_other _ _ _ _ (by simp)]; exact h.c6, World.cell?_setCell_same _ _ _ (u := .int .i64 c.un) h.c7⟩
theorem Nd.lt {w0 w : World} {k : Bk} {x : No} {m n : Nat} (h : Nd w0 w k x m n) : ∀ b ∈ k.all, b < w.heap.size := by
  intro b hb
  simp only [Bk.all, List.mem_cons, List.not_mem_nil, or_false] at hb
  rcases hb with rfl | rfl | rfl | rfl | rfl | rfl | rfl | rfl
  · exact h.nd.lt
  · exact h.ro.lt
  · exact h.ce.lt
  · exact h.yb.lt
  · exact tlt h.te.c0
  · exact h.tb.lt
  · exact h.te.m.lt
  · exact h.mi.lt
theorem Nd.more {w0 w : World} {k : Bk} {x : No} {m n m' : Nat} (h : Nd w0 w k x m n) (hm : m ≤ m') : Nd w0 w k x m' n := { h with vs := h.vs.more hm }
theorem Nd.eqT {w0 w : World} {k : Bk} {x : No} {m n : Nat} {T T' : Tb} (h : Nd w0 w k { x with T := T } m n) (e : T' = T) : Nd w0 w k { x with T := T' } m n := by rw [e]; exact h
set_option maxRecDepth 100000 in
set_option maxHeartbeats 4000000 in
theorem adopt_nd {w0 w : World} {k : Bk} {x : No} {m n : Nat} {s : Nat → Addr} (S : SeN w0 s) (h : Nd w0 w k x m n) (h0 : 0 ≤ x.now) (h1 : x.now ≤ 1000000000) (hm : m ≤ 500000000) :
    Calls Tryd.prog 43 #[.pointer (some ⟨k.nd, 0, none⟩)] w fun e w' => e = .returned (.tuple #[]) ∧ Nd w0 w' k { x with T := adT x.now x.T (flL x.mt 32) } (m + 32) n ∧ ChgL k.all w w' := by
  have HS : Hid (SeN w0 s) := S
  have HN : Hid (Nd w0 w k x m n) := h
  have HW : Hid (0 ≤ x.now ∧ x.now ≤ 1000000000 ∧ m ≤ 500000000) := ⟨h0, h1, hm⟩
  have c7 := h.c7
  clear S h h0 h1 hm
  go_enter Tryd.func43, Tryd.ntmps43
  go_wp2_with fail
  refine (mflows_nd HN.out).mono ?_
  rintro e w1 ⟨⟨v, rfl, ho⟩, h1, k1⟩
  have F1 : Hid (FlR w1 v (flL x.mt 32) k.all) := FlR.of_own ho (fun b hb => HN.out.lt b hb)
  have N1 : Hid (Nd w0 w1 k x m n) := h1
  have K1 : Hid (ChgL k.all w w1) := k1
  have HL : Hid (∀ c ∈ flL x.mt 32, In6 c.pr ∧ In6 c.st) := fun c hc => by
    obtain ⟨j, hj, rfl⟩ := flL_mem hc
    exact HN.out.wm j hj
  have HLL : Hid ((flL x.mt 32).length ≤ 32) := flL_len _ _
  clear ho h1 k1 c7
  generalize hLe : flL x.mt 32 = L at *
  have HLE : Hid (flL x.mt 32 = L) := hLe
  clear hLe
  obtain ⟨p, cap, rfl, _⟩ := F1.out
  go_wp2_with fail
  go_loopw [3, 10] (fun _ t wr => ∃ i : Nat, i ≤ L.length ∧ t = .int .i64 i ∧ Nd w0 wr k { x with T := adT x.now x.T (L.take i) } (m + i) n ∧ ChgL k.all w wr ∧ FlR wr (.slice p L.length cap) L k.all) (fun _ t _ => L.length - (intOf t).toNat)
  case atStart => exact ⟨0, by omega, rfl, N1.out, K1.out, F1.out⟩
  case round =>
    obtain ⟨i, hi, rfl, hn, hk, hf⟩ := hrel
    have NR : Hid (Nd w0 wr k { x with T := adT x.now x.T (L.take i) } (m + i) n) := hn
    have KR : Hid (ChgL k.all w wr) := hk
    have FR : Hid (FlR wr (.slice p L.length cap) L k.all) := hf
    clear hn hk hf N1 K1 F1
    by_cases hlt : i < L.length
    · as_aux_lemma =>
      obtain ⟨p', cap', hv, hat⟩ := FR.out
      injection hv with hp1 hp2 hp3
      subst hp1
      obtain ⟨c, hc⟩ : ∃ c, c = L[i] := ⟨_, rfl⟩
      have HCI : Hid (L[i]? = some c) := by show _ = _; rw [hc]; exact List.getElem?_eq_getElem hlt
      obtain ⟨g, hpg, hgn, hcs⟩ := hat i c HCI.out
      have HI : Hid (In6 c.pr ∧ In6 c.st) := HL.out c (List.mem_of_getElem? HCI.out)
      clear hc hat hp2 hp3
      subst hpg
      have d0 : wr.cell? ⟨g, i * 8, none⟩ = some (.int .i64 c.pr) := hcs 0 _ rfl
      have d1 := hcs 1 _ rfl
      have d2 := hcs 2 _ rfl
      have d3 := hcs 3 _ rfl
      have d4 := hcs 4 _ rfl
      have d5 := hcs 5 _ rfl
      have d6 := hcs 6 _ rfl
      have d7 := hcs 7 _ rfl
      clear hcs
      have i0 : (0 : Int) ≤ (i : Int) := by omega
      have i1 : (i : Int) < (L.length : Int) := by omega
      go_wp2_with fail
      clear d0 d1 d2 d3 d4 d5 d6 d7
      have B2 : Hid (Below wr.heap.size wr (wr.alloc (.cells #[.int .i64 c.pr, .int .i64 c.ia, .int .i64 c.ip, .int .i64 c.fa, .int .i64 c.fp, .int .i64 c.po, .int .i64 c.st, .int .i64 c.un] 77))) := aB _ _
      have Q2 : Hid (FlB (wr.alloc (.cells #[.int .i64 c.pr, .int .i64 c.ia, .int .i64 c.ip, .int .i64 c.fa, .int .i64 c.fp, .int .i64 c.po, .int .i64 c.st, .int .i64 c.un] 77)) wr.heap.size c) := flB_new wr c
      have Z2 : Hid ((wr.alloc (.cells #[.int .i64 c.pr, .int .i64 c.ia, .int .i64 c.ip, .int .i64 c.fa, .int .i64 c.fp, .int .i64 c.po, .int .i64 c.st, .int .i64 c.un] 77)).frozen? ⟨wr.heap.size, 7, none⟩ = false) := frozen_of_row _ _ _ _ _ (heap_alloc_new wr _)
      generalize wr.alloc (.cells #[.int .i64 c.pr, .int .i64 c.ia, .int .i64 c.ip, .int .i64 c.fa, .int .i64 c.fp, .int .i64 c.po, .int .i64 c.st, .int .i64 c.un] 77) = w2 at *
      refine (until_nd (NR.out.below B2.out) c.pr c.st HI.out.1 HI.out.2 HW.out.1 HW.out.2.1).mono ?_
      rintro e w3 ⟨rfl, hb3⟩
      have B3 : Hid (Below wr.heap.size wr w3) := t2 B2.out hb3
      have Q3 : Hid (FlB w3 wr.heap.size c) := Q2.out.below hb3
      have Z3 : Hid (w3.frozen? ⟨wr.heap.size, 7, none⟩ = false) := by show _ = _; rw [hb3.frozen (p := ⟨wr.heap.size, 7, none⟩) (tlt Q2.out.c7)]; exact Z2.out
      clear hb3 B2 Q2 Z2
      have HU : Hid (adT x.now x.T (L.take (i + 1)) = (putT (adT x.now x.T (L.take i)) c.pr c.ia c.ip c.fa c.fp c.po c.st (x.now + stay c.pr c.st)).2.2) := by
        show _ = _
        rw [List.take_add_one, HCI.out]
        exact adT_snoc _ _ _ _
      have HG : Hid (wr.heap.size ≤ wr.heap.size) := Nat.le_refl _
      generalize hq : wr.heap.size = q at Q3 Z3 HG ⊢
      have q7 := Q3.out.c7
      have f7 := Z3.out
      have HQN : Hid (¬ q ∈ k.all) := fun hm => by have := NR.out.lt _ hm; omega
      generalize x.now + stay c.pr c.st = un at *
      go_upto_region 4 with fail
      go_wp2_with fail
      have B4 : Hid (Below wr.heap.size wr (w3.setCell ⟨q, 7, none⟩ (.int .i64 un))) := Chg.below B3.out (Chg.set q 7 w3 _) (by omega)
      have Q4 : Hid (FlB (w3.setCell ⟨q, 7, none⟩ (.int .i64 un)) q { c with un := un }) := Q3.out.un un
      clear q7 f7 Q3 B3 Z3
      generalize w3.setCell ⟨q, 7, none⟩ (.int .i64 un) = w4 at *
      have N4 : Hid (Nd w0 w4 k { x with T := adT x.now x.T (L.take i) } (m + i) n) := NR.out.below B4.out
      have hS : w4.drew.cell? ⟨k.nd, 6, none⟩ = some (.pointer (some ⟨k.te, 0, none⟩)) ∧ w4.drew.cell? ⟨k.te, 0, none⟩ = some (.pointer (some ⟨k.tb, 0, none⟩)) ∧ w4.drew.cell? ⟨q, 0, none⟩ = some (.int .i64 c.pr) ∧ w4.drew.cell? ⟨q, 1, none⟩ = some (.int .i64 c.ia) ∧ w4.drew.cell? ⟨q, 2, none⟩ = some (.int .i64 c.ip) ∧ w4.drew.cell? ⟨q, 3, none⟩ = some (.int .i64 c.fa) ∧ w4.drew.cell? ⟨q, 4, none⟩ = some (.int .i64 c.fp) ∧ w4.drew.cell? ⟨q, 5, none⟩ = some (.int .i64 c.po) ∧ w4.drew.cell? ⟨q, 6, none⟩ = some (.int .i64 c.st) ∧ w4.drew.cell? ⟨q, 7, none⟩ = some (.int .i64 un) := ⟨N4.out.c6, N4.out.t0, Q4.out.c0, Q4.out.c1, Q4.out.c2, Q4.out.c3, Q4.out.c4, Q4.out.c5, Q4.out.c6, Q4.out.c7⟩
      go_region_held3 (fun w' => w'.cell? ⟨k.nd, 6, none⟩ = some (.pointer (some ⟨k.te, 0, none⟩)) ∧ w'.cell? ⟨k.te, 0, none⟩ = some (.pointer (some ⟨k.tb, 0, none⟩)) ∧ w'.cell? ⟨q, 0, none⟩ = some (.int .i64 c.pr) ∧ w'.cell? ⟨q, 1, none⟩ = some (.int .i64 c.ia) ∧ w'.cell? ⟨q, 2, none⟩ = some (.int .i64 c.ip) ∧ w'.cell? ⟨q, 3, none⟩ = some (.int .i64 c.fa) ∧ w'.cell? ⟨q, 4, none⟩ = some (.int .i64 c.fp) ∧ w'.cell? ⟨q, 5, none⟩ = some (.int .i64 c.po) ∧ w'.cell? ⟨q, 6, none⟩ = some (.int .i64 c.st) ∧ w'.cell? ⟨q, 7, none⟩ = some (.int .i64 un))
        (first | assumption | exact ⟨N5.out.c6, N5.out.t0, C5.out _ _ hS.2.2.1, C5.out _ _ hS.2.2.2.1, C5.out _ _ hS.2.2.2.2.1, C5.out _ _ hS.2.2.2.2.2.1, C5.out _ _ hS.2.2.2.2.2.2.1, C5.out _ _ hS.2.2.2.2.2.2.2.1, C5.out _ _ hS.2.2.2.2.2.2.2.2.1, C5.out _ _ hS.2.2.2.2.2.2.2.2.2⟩)
        (first | (go_at_call 62; refine (tput_nd HS.out N4.out.drew (by have := HW.out; have := HLL.out; omega) { c with un := un } HI.out.1 HI.out.2).mono ?_; rintro e w5 ⟨⟨v5, rfl⟩, n5, k5⟩; have N5 : Hid (Nd w0 w5 k { x with T := adT x.now x.T (L.take (i + 1)) } (m + i + 1) n) := n5.eqT HU.out; have K5 : Hid (ChgL k.all w4 w5) := (ChgL.of (Below.refl _ _).drew).trans k5; have C5 : Hid (∀ (j : Nat) (u : Value), w4.drew.cell? ⟨q, j, none⟩ = some u → w5.cell? ⟨q, j, none⟩ = some u) := (fun j u hc => k5.keeps (fun hm => HQN.out hm) hc); clear n5 k5))
      have F5 : Hid (FlR w5 (.slice (some ⟨g, 0, none⟩) L.length cap) L k.all) := (FR.out.chg (ChgL.of B4.out)).chg K5.out
      have X5 : Hid (ChgL k.all w w5) := (KR.out.then B4.out).trans K5.out
      have hll := HLL.out
      go_wp2_with fail
      exact ⟨⟨i + 1, by omega, by go_num, N5.out, X5.out, F5.out⟩, by simp [intOf]; omega⟩
    · obtain rfl : i = L.length := by omega
      go_wp2_with fail
      go_end0
      rw [List.take_length] at NR
      exact ⟨rfl, (NR.out.more (m' := m + 32) (by have := HLL.out; omega)).eqT (by rw [HLE.out]), KR.out⟩
theorem Ro.clE_ok {r : Ro} (ha : r.ac = false) (hn : r.nxE = 0) : r.clE r.nxV = 0 := by
  have h2 : ¬ 1073741824 < r.nx := by
    intro h; unfold Ro.nxE at hn; rw [if_pos h] at hn; cases hn
  unfold Ro.clE Ro.nxV
  rw [ha, if_neg (by simp), if_neg h2, if_neg h2, if_pos rfl]
set_option maxRecDepth 100000 in
set_option maxHeartbeats 4000000 in
theorem nclaim_nd {w0 w : World} {k : Bk} {x : No} {m n : Nat} {s : Nat → Addr} (S : SeN w0 s) (h : Nd w0 w k x m n) (ha : x.ro.ac = false) (h0 : 0 ≤ x.now) (h1 : x.now ≤ 1000000000) (hm : m ≤ 500000000) :
    Calls Tryd.prog 27 #[.pointer (some ⟨k.nd, 0, none⟩)] w fun e w' => e = .returned (terr s x.clE) ∧ Nd w0 w' k x.clm (m + 32) n ∧ ChgL k.all w w' := by
  have HS : Hid (SeN w0 s) := S
  have HN : Hid (Nd w0 w k x m n) := h
  have HW : Hid (0 ≤ x.now ∧ x.now ≤ 1000000000 ∧ m ≤ 500000000) := ⟨h0, h1, hm⟩
  have HA : Hid (x.ro.ac = false) := ha
  have c0 := h.c0
  clear S h h0 h1 hm ha
  go_enter Tryd.func27, Tryd.ntmps27
  go_wp2_with fail
  refine (rnext_nd HS.out HN.out).mono ?_
  rintro e w1 ⟨rfl, n1, k1⟩
  have N1 : Hid (Nd w0 w1 k x m n) := n1
  have K1 : Hid (ChgL k.all w w1) := k1
  clear n1 k1 c0
  by_cases hx : x.ro.nxE = 0
  · have HE : Hid (x.clE = x.cp.1) := by show _ = _; unfold No.clE; rw [if_pos hx]
    have HC : Hid (x.ro.clE x.ro.nxV = 0) := Ro.clE_ok HA.out hx
    have HX : Hid (x.ro.nxE = 0) := hx
    rw [hx]
    clear hx
    simp only [terr]
    go_upto_region 4 with fail
    go_wp2_with fail
    have hS : w1.drew.cell? ⟨k.nd, 5, none⟩ = some (.pointer (some ⟨k.ce, 0, none⟩)) ∧ w1.drew.cell? ⟨k.nd, 2, none⟩ = some (.int .i64 x.life) := ⟨N1.out.c5, N1.out.c2⟩
    go_region_held3 (fun w' => w'.cell? ⟨k.nd, 5, none⟩ = some (.pointer (some ⟨k.ce, 0, none⟩)) ∧ w'.cell? ⟨k.nd, 2, none⟩ = some (.int .i64 x.life))
      (first | assumption | exact ⟨N2.out.c5, N2.out.c2⟩)
      (first | (go_at_call 21; refine (cput_nd HS.out N1.out.drew x.ro.nxV x.life).mono ?_; rintro e w2 ⟨rfl, n2, k2⟩; have N2 : Hid (Nd w0 w2 k { x with y := x.cp.2.1, off := x.cp.2.2 } m n) := n2; have K2 : Hid (ChgL k.all w w2) := (K1.out.then (Below.refl _ _).drew).trans k2; clear n2 k2))
    clear hS
    have HP : Hid (terr s (putE x.off x.y x.ro.nxV x.life).1 = terr s x.cp.1) := rfl
    rw [show (putE x.off x.y x.ro.nxV x.life).1 = x.cp.1 from rfl]
    by_cases hp : x.cp.1 = 0
    · have HM : Hid (x.clm = { x with y := x.cp.2.1, off := x.cp.2.2, T := adT x.now x.T (flL x.mt 32), ro := x.ro.claim x.ro.nxV }) := by show _ = _; unfold No.clm; rw [if_pos HX.out, if_pos hp]
      have HE2 : Hid (x.clE = 0) := by show _ = _; rw [HE.out, hp]
      rw [hp]
      clear hp HP
      simp only [terr]
      go_wp2_with fail
      refine (adopt_nd HS.out N2.out HW.out.1 HW.out.2.1 HW.out.2.2).mono ?_
      rintro e w3 ⟨rfl, n3, k3⟩
      have N3 : Hid (Nd w0 w3 k { x with y := x.cp.2.1, off := x.cp.2.2, T := adT x.now x.T (flL x.mt 32) } (m + 32) n) := n3
      have K3 : Hid (ChgL k.all w w3) := K2.out.trans k3
      have c0 : w3.cell? ⟨k.nd, 0, none⟩ = some (.pointer (some ⟨k.ro, 0, none⟩)) := n3.c0
      clear n3 k3 N2 K2
      go_wp2_with fail
      refine (rclaim_nd HS.out N3.out x.ro.nxV).mono ?_
      rintro e w4 ⟨rfl, n4, k4⟩
      have N4 : Hid (Nd w0 w4 k x.clm (m + 32) n) := by show Nd _ _ _ _ _ _; rw [HM.out]; exact n4
      have K4 : Hid (ChgL k.all w w4) := K3.out.trans k4
      clear n4 k4 N3 K3 c0
      rw [show terr s (x.ro.clE x.ro.nxV) = .nilIface by rw [HC.out]; rfl]
      go_wp2_with fail
      go_ret
      exact ⟨by rw [HE2.out]; rfl, N4.out, K4.out⟩
    · have HM : Hid (x.clm = { x with y := x.cp.2.1, off := x.cp.2.2 }) := by show _ = _; unfold No.clm; rw [if_pos HX.out, if_neg hp]
      obtain ⟨e1, he1⟩ : ∃ e1, x.cp.1 = e1 + 1 := ⟨x.cp.1 - 1, by omega⟩
      rw [he1]
      have HE2 : Hid (x.clE = e1 + 1) := by show _ = _; rw [HE.out, he1]
      clear hp HP he1
      simp only [terr]
      go_wp2_with fail
      go_ret
      exact ⟨by rw [HE2.out]; rfl, by rw [HM.out]; exact N2.out.more (by omega), K2.out⟩
  · have HE : Hid (x.clE = 0) := by show _ = _; unfold No.clE; rw [if_neg hx]
    have HM : Hid (x.clm = x) := by show _ = _; unfold No.clm; rw [if_neg hx]
    obtain ⟨e1, he1⟩ : ∃ e1, x.ro.nxE = e1 + 1 := ⟨x.ro.nxE - 1, by omega⟩
    rw [he1]
    clear hx he1
    simp only [terr]
    go_wp2_with fail
    go_ret
    exact ⟨by rw [HE.out]; rfl, by rw [HM.out]; exact N1.out.more (by omega), K1.out⟩
end Go.Proofs.YtjfhompbeengmaaDoor
