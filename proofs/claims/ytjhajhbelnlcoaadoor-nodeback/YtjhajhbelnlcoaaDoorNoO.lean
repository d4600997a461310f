/-
  Package node's Outside.
-/
import Derived.Test.YtjhajhbelnlcoaaDoorNoK
namespace Go.Proofs.YtjhajhbelnlcoaaDoor
open Go.RowKit

/-- a packet from outside: its slot; its error; what goes on; the node behind it. -/
def No.bck (x : No) (p : Pk) : Option Nat := fst x.T (backQ p.pr p.p2 p.a1 p.p1)
def No.otE (x : No) (p : Pk) : Nat := if x.chk p = 0 then (if p.a2 = 1 then (match x.bck p with | some _ => 0 | none => 4) else 3) else x.chk p
def No.otJ (x : No) (p : Pk) : Option Nat := if x.chk p = 0 then (if p.a2 = 1 then x.bck p else none) else none
def No.otP (x : No) (p : Pk) : Pk := match x.otJ p with | some j => ⟨p.pr, p.a1, p.p1, (x.T j).ia, (x.T j).ip, p.fl⟩ | none => noP
def No.ots (x : No) (p : Pk) : No := match x.otJ p with | some j => x.stp j p.fl false | none => x
theorem stp_ru (x : No) (j : Nat) (fl : Int) (ou : Bool) : (x.stp j fl ou).ru = x.ru := by unfold No.stp; split <;> rfl
set_option maxRecDepth 100000 in
set_option maxHeartbeats 4000000 in
theorem outside_nd {w0 w : World} {k : Bk} {x : No} {m n : Nat} {s : Nat → Addr} (S : SeM w0 s) (h : Nd w0 w k x m n) (hm : m ≤ 1000000) (h0 : 0 ≤ x.now) (h1 : x.now ≤ 1000000000) (p : Pk) :
    Calls Tryd.prog 10 #[.pointer (some ⟨k.nd, 0, none⟩), p.v] w fun e w' => e = .returned (.tuple #[(x.otP p).v, terr s (x.otE p)]) ∧ Nd w0 w' k (x.ots p) (m + 1) n ∧ ChgL k.all w w' := by
  have HS : Hid (SeM w0 s) := S
  have HN : Hid (Nd w0 w k x m n) := h
  have HW : Hid (0 ≤ x.now ∧ x.now ≤ 1000000000 ∧ m ≤ 1000000) := ⟨h0, h1, hm⟩
  clear S h h0 h1 hm
  go_enter Tryd.func10, Tryd.ntmps10
  go_wp2_with fail
  have B0 := aB w (.cells #[.int .i64 p.pr, .int .i64 p.a1, .int .i64 p.p1, .int .i64 p.a2, .int .i64 p.p2, .int .i64 p.fl] 41)
  have P1 : Hid (PkZ ((w.alloc (.cells #[.int .i64 p.pr, .int .i64 p.a1, .int .i64 p.p1, .int .i64 p.a2, .int .i64 p.p2, .int .i64 p.fl] 41)).alloc (.cells #[.int .i64 0, .int .i64 0, .int .i64 0, .int .i64 0, .int .i64 0, .int .i64 0] 41)) w.heap.size p) := (PkZ.new w p).below (aB _ _)
  have B1 : Hid (Below w.heap.size w ((w.alloc (.cells #[.int .i64 p.pr, .int .i64 p.a1, .int .i64 p.p1, .int .i64 p.a2, .int .i64 p.p2, .int .i64 p.fl] 41)).alloc (.cells #[.int .i64 0, .int .i64 0, .int .i64 0, .int .i64 0, .int .i64 0, .int .i64 0] 41))) := t2 B0 (aB _ _)
  have Z1 : Hid (PkZ ((w.alloc (.cells #[.int .i64 p.pr, .int .i64 p.a1, .int .i64 p.p1, .int .i64 p.a2, .int .i64 p.p2, .int .i64 p.fl] 41)).alloc (.cells #[.int .i64 0, .int .i64 0, .int .i64 0, .int .i64 0, .int .i64 0, .int .i64 0] 41)) (w.heap.size + 1) noP) := by
    have := PkZ.zero (w.alloc (.cells #[.int .i64 p.pr, .int .i64 p.a1, .int .i64 p.p1, .int .i64 p.a2, .int .i64 p.p2, .int .i64 p.fl] 41))
    show PkZ _ _ _
    simpa using this
  clear B0
  generalize (w.alloc (.cells #[.int .i64 p.pr, .int .i64 p.a1, .int .i64 p.p1, .int .i64 p.a2, .int .i64 p.p2, .int .i64 p.fl] 41)).alloc (.cells #[.int .i64 0, .int .i64 0, .int .i64 0, .int .i64 0, .int .i64 0, .int .i64 0] 41) = w1 at *
  have N1 : Hid (Nd w0 w1 k x m n) := HN.out.below B1.out
  have LW : Hid (w.heap.size ≤ w.heap.size) := Nat.le_refl _
  have LQ : Hid (w.heap.size ≤ w.heap.size + 1) := Nat.le_succ _
  generalize hPe : w.heap.size = P at P1 Z1 LW LQ ⊢
  generalize hQe : P + 1 = Q at Z1 LQ ⊢
  have HNQ : Hid (¬ Q ∈ k.all) := fun hm => by have := HN.out.lt _ hm; omega
  have HNP : Hid (¬ P ∈ k.all) := fun hm => by have := HN.out.lt _ hm; omega
  refine (check_nd HS.out N1.out p).mono ?_
  rintro e w2 ⟨rfl, hb2⟩
  have B2 : Hid (Below w.heap.size w w2) := t2 B1.out hb2
  have N2 : Hid (Nd w0 w2 k x m n) := HN.out.below B2.out
  have P2 : Hid (PkZ w2 P p) := P1.out.below hb2
  have Z2 : Hid (PkZ w2 Q noP) := Z1.out.below hb2
  have S2 : Hid (SeM w2 s) := HS.out.below N2.out.bl
  clear hb2 B1 N1 P1 Z1
  by_cases hc : x.chk p = 0
  · have HCK : Hid (x.chk p = 0) := hc
    rw [hc]
    clear hc
    simp only [terr]
    by_cases ha : p.a2 = 1
    · have HA2 : Hid (p.a2 = 1) := ha
      obtain ⟨r0, r1, r2, r3, r4, r5⟩ := P2.out.b
      rw [ha] at r3
      clear ha
      go_upto_region 6 with fail
      clear r0 r1 r2 r3 r4 r5
      go_wp2_with fail
      obtain ⟨o, ho⟩ : ∃ o, x.bck p = o := ⟨_, rfl⟩
      have HO : Hid (x.bck p = o) := ho
      have HFD : Hid (∀ u, Nd w0 u k x m n → Calls Tryd.prog 32 #[.pointer (some ⟨k.tb, 0, none⟩), .int .i64 p.pr, .int .i64 p.p2, .agg #[.int .i64 p.a1, .int .i64 p.p1]] u fun e w' => e = .returned (.tuple #[.int .i64 ((o.getD 0 : Nat) : Int), .bool o.isSome]) ∧ Below u.heap.size u w') := fun u hu => by
        have := back_any k.tb x.low x.T p.pr p.p2 p.a1 p.p1 u hu.tb
        rw [show fst x.T (backQ p.pr p.p2 p.a1 p.p1) = o from ho] at this
        exact this
      clear ho
      obtain ⟨q0, q1, q2, _, q4, _⟩ := (P2.out.below (Below.refl _ _).drew).b
      have hS : w2.drew.cell? ⟨k.nd, 6, none⟩ = some (.pointer (some ⟨k.te, 0, none⟩)) ∧ w2.drew.cell? ⟨k.te, 0, none⟩ = some (.pointer (some ⟨k.tb, 0, none⟩)) ∧ w2.drew.cell? ⟨P, 0, none⟩ = some (.int .i64 p.pr) ∧ w2.drew.cell? ⟨P, 1, none⟩ = some (.int .i64 p.a1) ∧ w2.drew.cell? ⟨P, 2, none⟩ = some (.int .i64 p.p1) ∧ w2.drew.cell? ⟨P, 4, none⟩ = some (.int .i64 p.p2) := ⟨N2.out.c6, N2.out.t0, q0, q1, q2, q4⟩
      clear q0 q1 q2 q4
      go_region_held3 (fun w' => w'.cell? ⟨k.nd, 6, none⟩ = some (.pointer (some ⟨k.te, 0, none⟩)) ∧ w'.cell? ⟨k.te, 0, none⟩ = some (.pointer (some ⟨k.tb, 0, none⟩)) ∧ w'.cell? ⟨P, 0, none⟩ = some (.int .i64 p.pr) ∧ w'.cell? ⟨P, 1, none⟩ = some (.int .i64 p.a1) ∧ w'.cell? ⟨P, 2, none⟩ = some (.int .i64 p.p1) ∧ w'.cell? ⟨P, 4, none⟩ = some (.int .i64 p.p2))
        (first | assumption | exact ⟨tk hb3 hS.1, tk hb3 hS.2.1, tk hb3 hS.2.2.1, tk hb3 hS.2.2.2.1, tk hb3 hS.2.2.2.2.1, tk hb3 hS.2.2.2.2.2⟩)
        (first | (go_at_call 32; refine (HFD.out _ N2.out.drew).mono ?_; rintro e w3 ⟨rfl, hb3⟩))
      have B3 : Hid (Below w.heap.size w w3) := t2 (t2 B2.out (Below.refl _ _).drew) hb3
      have N3 : Hid (Nd w0 w3 k x m n) := HN.out.below B3.out
      have P3 : Hid (PkZ w3 P p) := (P2.out.below (Below.refl _ _).drew).below hb3
      have Z3 : Hid (PkZ w3 Q noP) := (Z2.out.below (Below.refl _ _).drew).below hb3
      have S3 : Hid (SeM w3 s) := HS.out.below N3.out.bl
      clear hS hb3 B2 N2 P2 Z2 S2 HFD
      cases o with
      | some j =>
        have HLT : Hid (j < 32) := fst_lt HO.out
        have HJ : Hid (x.otJ p = some j) := by show _ = _; unfold No.otJ; rw [if_pos HCK.out, if_pos HA2.out, HO.out]
        have HE : Hid (x.otE p = 0) := by show _ = _; unfold No.otE; rw [if_pos HCK.out, if_pos HA2.out, HO.out]
        have HX : Hid (x.ots p = x.stp j p.fl false) := by show _ = _; unfold No.ots; rw [HJ.out]
        have HRU : Hid ((x.stp j p.fl false).ru = x.ru) := stp_ru _ _ _ _
        simp only [Option.isSome_some, Option.getD_some]
        have r5 := P3.out.b.c5
        go_wp2_with fail
        clear r5
        refine (step_nd HS.out N3.out HW.out.2.2 HW.out.1 HW.out.2.1 j HLT.out p.fl false).mono ?_
        rintro e w4 ⟨rfl, n4, k4⟩
        obtain ⟨c, hcc⟩ : ∃ c, x.T j = c := ⟨_, rfl⟩
        have HPP : Hid (x.otP p = ⟨p.pr, p.a1, p.p1, c.ia, c.ip, p.fl⟩) := by show _ = _; unfold No.otP; rw [HJ.out]; simp only [hcc]
        rw [hcc]
        clear hcc
        simp only [flowV]
        have N4 : Hid (Nd w0 w4 k (x.stp j p.fl false) (m + 1) n) := n4
        have X4 : Hid (ChgL k.all w w4) := (ChgL.of B3.out).trans k4
        have P4 : Hid (PkZ w4 P p) := P3.out.chgL k4 HNP.out
        have Z4 : Hid (PkZ w4 Q noP) := Z3.out.chgL k4 HNQ.out
        clear n4 k4 N3 P3 Z3 B3
        obtain ⟨r0, r1, r2, r3, r4, r5⟩ := P4.out.b
        have pf := P4.out.fr
        have hfd : (Instr.field 77 (.agg #[.int .i64 c.pr, .int .i64 c.ia, .int .i64 c.ip, .int .i64 c.fa, .int .i64 c.fp, .int .i64 c.po, .int .i64 c.st, .int .i64 c.un]) 1).run Tryd.prog w4 = .ok (.agg #[.int .i64 c.ia, .int .i64 c.ip]) w4 := by kernel_rfl
        have hcg := set_chg2 w4 P 3 4 (.int .i64 c.ia) (.int .i64 c.ip)
        have Z5 : Hid (PkZ ((w4.setCell ⟨P, 3, none⟩ (.int .i64 c.ia)).setCell ⟨P, 4, none⟩ (.int .i64 c.ip)) Q noP) := Z4.out.chgL (ChgL.one (l := [P]) hcg (by simp)) (by simp; omega)
        obtain ⟨n5, k5⟩ := HN.out.fresh N4.out HRU.out X4.out hcg (by omega)
        obtain ⟨w9, hst, hz9, hc9⟩ := pkz_store Z5.out ⟨p.pr, p.a1, p.p1, c.ia, c.ip, p.fl⟩
        simp only at hst
        obtain ⟨n9, k9⟩ := HN.out.fresh n5 HRU.out k5 hc9 (by omega)
        have N9 : Hid (Nd w0 w9 k (x.stp j p.fl false) (m + 1) n) := n9
        have K9 : Hid (ChgL k.all w w9) := k9
        have Z9 : Hid (PkZ w9 Q ⟨p.pr, p.a1, p.p1, c.ia, c.ip, p.fl⟩) := hz9
        clear n9 k9 hz9 hc9 n5 k5 hcg
        go_wp2_with (refine wpList_store_eq rfl 41 _ _ rfl _ _ _ rfl rfl hst ?_)
        clear hst r0 r1 r2 r3 r4 r5 pf
        have q := Z9.out.b
        go_wp2_with fail
        exact bodyPost_ret (v := .tuple #[Pk.v ⟨p.pr, p.a1, p.p1, c.ia, c.ip, p.fl⟩, .nilIface]) (by simp [results, Tryd.results10, go_sem, q.c0, q.c1, q.c2, q.c3, q.c4, q.c5, Pk.v]) rfl ⟨by rw [HPP.out, HE.out]; rfl, by rw [HX.out]; exact N9.out, K9.out⟩
      | none =>
        have HJ : Hid (x.otJ p = none) := by show _ = _; unfold No.otJ; rw [if_pos HCK.out, if_pos HA2.out, HO.out]
        have HE : Hid (x.otE p = 4) := by show _ = _; unfold No.otE; rw [if_pos HCK.out, if_pos HA2.out, HO.out]
        have HX : Hid (x.ots p = x) := by show _ = _; unfold No.ots; rw [HJ.out]
        have HPP : Hid (x.otP p = noP) := by show _ = _; unfold No.otP; rw [HJ.out]
        simp only [Option.isSome_none, Option.getD_none]
        have s3 := S3.out.c3
        have hGQ : 2 ≠ Q := by have hg : 2 < w0.heap.size := tlt HS.out.c3; have := HN.out.bl.size; omega
        obtain ⟨z0, z1, z2, z3, z4, z5⟩ := Z3.out.b
        have zf := Z3.out.fr
        simp only [noP] at z0 z1 z2 z3 z4 z5
        go_wp2_with fail
        go_region
        all_goals go_wp2_with fail
        all_goals
          refine bodyPost_ret (v := .tuple #[Pk.v noP, .iface 161 (.pointer (some (s 3)))]) (by simp [results, Tryd.results10, go_sem, z0, z1, z2, z3, z4, z5, Pk.v, noP]) rfl ?_
          rw [HPP.out, HE.out, HX.out]
          have hcc : ∀ W, Chg Q w3 W → Nd w0 W k x m n ∧ ChgL k.all w W := fun W hc => HN.out.fresh N3.out rfl (ChgL.of B3.out) hc (by omega)
          refine ⟨rfl, (fun q => ⟨q.1.more (by omega), q.2⟩) (hcc _ ?_)⟩
          exact (set0_chg6 w3 Q).then (Below.refl _ _).drew
    · have HJ : Hid (x.otJ p = none) := by show _ = _; unfold No.otJ; rw [if_pos HCK.out, if_neg ha]
      have HE : Hid (x.otE p = 3) := by show _ = _; unfold No.otE; rw [if_pos HCK.out, if_neg ha]
      have HX : Hid (x.ots p = x) := by show _ = _; unfold No.ots; rw [HJ.out]
      have HPP : Hid (x.otP p = noP) := by show _ = _; unfold No.otP; rw [HJ.out]
      have s2 := S2.out.c2
      have r3 := P2.out.b.c3
      have hGQ : 1 ≠ Q := by have hg : 1 < w0.heap.size := tlt HS.out.c2; have := HN.out.bl.size; omega
      obtain ⟨z0, z1, z2, z3, z4, z5⟩ := Z2.out.b
      have zf := Z2.out.fr
      simp only [noP] at z0 z1 z2 z3 z4 z5
      go_wp2_with fail
      go_region
      all_goals go_wp2_with fail
      all_goals
        refine bodyPost_ret (v := .tuple #[Pk.v noP, .iface 161 (.pointer (some (s 2)))]) (by simp [results, Tryd.results10, go_sem, z0, z1, z2, z3, z4, z5, Pk.v, noP]) rfl ?_
        rw [HPP.out, HE.out, HX.out]
        have hcc : ∀ W, Chg Q w2 W → Nd w0 W k x m n ∧ ChgL k.all w W := fun W hc => HN.out.fresh N2.out rfl (ChgL.of B2.out) hc (by omega)
        refine ⟨rfl, (fun q => ⟨q.1.more (by omega), q.2⟩) (hcc _ ?_)⟩
        exact (set0_chg6 w2 Q).then (Below.refl _ _).drew
  · obtain ⟨e1, he1⟩ : ∃ e1, x.chk p = e1 + 1 := ⟨x.chk p - 1, by omega⟩
    have HE : Hid (x.otE p = e1 + 1) := by show _ = _; unfold No.otE; rw [if_neg hc, he1]
    have HJ : Hid (x.otJ p = none) := by show _ = _; unfold No.otJ; rw [if_neg hc]
    have HX : Hid (x.ots p = x) := by show _ = _; unfold No.ots; rw [HJ.out]
    have HPP : Hid (x.otP p = noP) := by show _ = _; unfold No.otP; rw [HJ.out]
    rw [he1]
    clear hc he1
    simp only [terr]
    obtain ⟨w9, hst0, hz9, hc9⟩ := pkz_store Z2.out noP
    have hst : (Instr.storeAt 41 (.pointer (some ⟨Q, 0, none⟩)) (.agg #[.int .i64 0, .int .i64 0, .int .i64 0, .int .i64 0, .int .i64 0, .int .i64 0])).run Tryd.prog w2 = .ok () w9 := hst0
    obtain ⟨n9, k9⟩ := HN.out.fresh N2.out rfl (ChgL.of B2.out) hc9 (by omega)
    have N9 : Hid (Nd w0 w9 k x m n) := n9
    have K9 : Hid (ChgL k.all w w9) := k9
    have Z9 : Hid (PkZ w9 Q noP) := hz9
    clear n9 k9 hz9 hc9 hst0
    go_wp2_with (refine wpList_store_eq rfl 41 _ _ rfl _ _ _ rfl rfl hst ?_)
    clear hst
    have q := Z9.out.b
    go_wp2_with fail
    exact bodyPost_ret (v := .tuple #[Pk.v noP, .iface 161 (.pointer (some (s e1)))]) (by simp [results, Tryd.results10, go_sem, q.c0, q.c1, q.c2, q.c3, q.c4, q.c5, Pk.v]) rfl ⟨by rw [HPP.out, HE.out]; rfl, by rw [HX.out]; exact N9.out.more (by omega), K9.out⟩
end Go.Proofs.YtjhajhbelnlcoaaDoor
