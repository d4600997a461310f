/-
  Package node's outward.
-/
import Derived.Test.YtjhajhbelnlcoaaDoorNoI
namespace Go.Proofs.YtjhajhbelnlcoaaDoor
open Go.RowKit

/-- the flow of a packet from inside. -/
def No.fnd (x : No) (p : Pk) : Option Nat := fst x.T (findQ p.pr p.a1 p.p1 p.a2 p.p2)
def No.ouF (x : No) (p : Pk) : Ce := match x.fnd p with | some j => x.T j | none => x.bgF p
def No.ouE (x : No) (p : Pk) : Nat := match x.fnd p with | some _ => 0 | none => x.bgE p
def No.ou (x : No) (p : Pk) : No := match x.fnd p with | some j => x.stp j p.fl true | none => x.bg p
set_option maxRecDepth 100000 in
set_option maxHeartbeats 4000000 in
theorem outward_nd {w0 w : World} {k : Bk} {x : No} {m n : Nat} {s : Nat → Addr} (S : SeM w0 s) (h : Nd w0 w k x m n) (hm : m ≤ 1000000) (h0 : 0 ≤ x.now) (h1 : x.now ≤ 1000000000) (hr : RulesOk x.ru) (p : Pk) (hp : p.err = 0) (hpp : In6 p.pr) :
    Calls Tryd.prog 31 #[.pointer (some ⟨k.nd, 0, none⟩), p.v] w fun e w' => e = .returned (.tuple #[flowV (x.ouF p), terr s (x.ouE p)]) ∧ Nd w0 w' k (x.ou p) (m + 1) n ∧ ChgL k.all w w' := by
  have HS : Hid (SeM w0 s) := S
  have HN : Hid (Nd w0 w k x m n) := h
  have HW : Hid (0 ≤ x.now ∧ x.now ≤ 1000000000 ∧ m ≤ 1000000) := ⟨h0, h1, hm⟩
  have HR : Hid (RulesOk x.ru) := hr
  have HP : Hid (p.err = 0) := hp
  have HPP : Hid (In6 p.pr) := hpp
  clear S h h0 h1 hm hr hp hpp
  go_enter Tryd.func31, Tryd.ntmps31
  go_upto_region 1 with fail
  go_wp2_with fail
  have B0 := aB w (.cells #[.int .i64 p.pr, .int .i64 p.a1, .int .i64 p.p1, .int .i64 p.a2, .int .i64 p.p2, .int .i64 p.fl] 41)
  have P1 : Hid (PkZ ((w.alloc (.cells #[.int .i64 p.pr, .int .i64 p.a1, .int .i64 p.p1, .int .i64 p.a2, .int .i64 p.p2, .int .i64 p.fl] 41)).alloc (.cells #[.int .i64 0, .int .i64 0, .int .i64 0, .int .i64 0, .int .i64 0, .int .i64 0, .int .i64 0, .int .i64 0] 77)) w.heap.size p) := (PkZ.new w p).below (aB _ _)
  have B1 : Hid (Below w.heap.size w ((w.alloc (.cells #[.int .i64 p.pr, .int .i64 p.a1, .int .i64 p.p1, .int .i64 p.a2, .int .i64 p.p2, .int .i64 p.fl] 41)).alloc (.cells #[.int .i64 0, .int .i64 0, .int .i64 0, .int .i64 0, .int .i64 0, .int .i64 0, .int .i64 0, .int .i64 0] 77))) := t2 B0 (aB _ _)
  have Z1 : Hid (FlZ ((w.alloc (.cells #[.int .i64 p.pr, .int .i64 p.a1, .int .i64 p.p1, .int .i64 p.a2, .int .i64 p.p2, .int .i64 p.fl] 41)).alloc (.cells #[.int .i64 0, .int .i64 0, .int .i64 0, .int .i64 0, .int .i64 0, .int .i64 0, .int .i64 0, .int .i64 0] 77)) (w.heap.size + 1) noC) := by
    have := FlZ.zero (w.alloc (.cells #[.int .i64 p.pr, .int .i64 p.a1, .int .i64 p.p1, .int .i64 p.a2, .int .i64 p.p2, .int .i64 p.fl] 41))
    show FlZ _ _ _
    simpa using this
  clear B0
  generalize (w.alloc (.cells #[.int .i64 p.pr, .int .i64 p.a1, .int .i64 p.p1, .int .i64 p.a2, .int .i64 p.p2, .int .i64 p.fl] 41)).alloc (.cells #[.int .i64 0, .int .i64 0, .int .i64 0, .int .i64 0, .int .i64 0, .int .i64 0, .int .i64 0, .int .i64 0] 77) = w1 at *
  have N1 : Hid (Nd w0 w1 k x m n) := HN.out.below B1.out
  have LW : Hid (w.heap.size ≤ w.heap.size) := Nat.le_refl _
  have LQ : Hid (w.heap.size ≤ w.heap.size + 1) := Nat.le_succ _
  generalize hPe : w.heap.size = P at P1 Z1 LW LQ ⊢
  generalize hQe : P + 1 = Q at Z1 LQ ⊢
  obtain ⟨o, ho⟩ : ∃ o, x.fnd p = o := ⟨_, rfl⟩
  have HO : Hid (x.fnd p = o) := ho
  have HFD : Hid (∀ u, Nd w0 u k x m n → Calls Tryd.prog 48 #[.pointer (some ⟨k.tb, 0, none⟩), .int .i64 p.pr, .agg #[.int .i64 p.a1, .int .i64 p.p1], .agg #[.int .i64 p.a2, .int .i64 p.p2]] u fun e w' => e = .returned (.tuple #[.int .i64 ((o.getD 0 : Nat) : Int), .bool o.isSome]) ∧ Below u.heap.size u w') := fun u hu => by
    have := find_any k.tb x.low x.T p.pr p.a1 p.p1 p.a2 p.p2 u hu.tb
    rw [show fst x.T (findQ p.pr p.a1 p.p1 p.a2 p.p2) = o from ho] at this
    exact this
  clear ho
  obtain ⟨q0, q1, q2, q3, q4, _⟩ := (P1.out.below (Below.refl _ _).drew).b
  have hS : w1.drew.cell? ⟨k.nd, 6, none⟩ = some (.pointer (some ⟨k.te, 0, none⟩)) ∧ w1.drew.cell? ⟨k.te, 0, none⟩ = some (.pointer (some ⟨k.tb, 0, none⟩)) ∧ w1.drew.cell? ⟨P, 0, none⟩ = some (.int .i64 p.pr) ∧ w1.drew.cell? ⟨P, 1, none⟩ = some (.int .i64 p.a1) ∧ w1.drew.cell? ⟨P, 2, none⟩ = some (.int .i64 p.p1) ∧ w1.drew.cell? ⟨P, 3, none⟩ = some (.int .i64 p.a2) ∧ w1.drew.cell? ⟨P, 4, none⟩ = some (.int .i64 p.p2) := ⟨N1.out.c6, N1.out.t0, q0, q1, q2, q3, q4⟩
  clear q0 q1 q2 q3 q4
  go_region_held3 (fun w' => w'.cell? ⟨k.nd, 6, none⟩ = some (.pointer (some ⟨k.te, 0, none⟩)) ∧ w'.cell? ⟨k.te, 0, none⟩ = some (.pointer (some ⟨k.tb, 0, none⟩)) ∧ w'.cell? ⟨P, 0, none⟩ = some (.int .i64 p.pr) ∧ w'.cell? ⟨P, 1, none⟩ = some (.int .i64 p.a1) ∧ w'.cell? ⟨P, 2, none⟩ = some (.int .i64 p.p1) ∧ w'.cell? ⟨P, 3, none⟩ = some (.int .i64 p.a2) ∧ w'.cell? ⟨P, 4, none⟩ = some (.int .i64 p.p2))
    (first | assumption | exact ⟨tk hb2 hS.1, tk hb2 hS.2.1, tk hb2 hS.2.2.1, tk hb2 hS.2.2.2.1, tk hb2 hS.2.2.2.2.1, tk hb2 hS.2.2.2.2.2.1, tk hb2 hS.2.2.2.2.2.2⟩)
    (first | (go_at_call 48; refine (HFD.out _ N1.out.drew).mono ?_; rintro e w2 ⟨rfl, hb2⟩))
  have B2 : Hid (Below w.heap.size w w2) := t2 (t2 B1.out (Below.refl _ _).drew) hb2
  have N2 : Hid (Nd w0 w2 k x m n) := HN.out.below B2.out
  have P2 : Hid (PkZ w2 P p) := (P1.out.below (Below.refl _ _).drew).below hb2
  have Z2 : Hid (FlZ w2 Q noC) := (Z1.out.below (Below.refl _ _).drew).below hb2
  have HNQ : Hid (¬ Q ∈ k.all) := fun hm => by have := HN.out.lt _ hm; omega
  clear hS hb2 B1 N1 P1 Z1 HFD
  obtain ⟨r0, r1, r2, r3, r4, r5⟩ := P2.out.b
  cases o with
  | some j =>
    have HLT : Hid (j < 32) := fst_lt HO.out
    have HF : Hid (x.ouF p = x.T j ∧ x.ouE p = 0 ∧ x.ou p = x.stp j p.fl true) := by unfold No.ouF No.ouE No.ou; rw [HO.out]; exact ⟨rfl, rfl, rfl⟩
    simp only [Option.isSome_some, Option.getD_some]
    go_wp2_with fail
    clear r0 r1 r2 r3 r4 r5
    refine (step_nd HS.out N2.out HW.out.2.2 HW.out.1 HW.out.2.1 j HLT.out p.fl true).mono ?_
    rintro e w7 ⟨rfl, n7, k7⟩
    have N7 : Hid (Nd w0 w7 k (x.stp j p.fl true) (m + 1) n) := n7
    have X7 : Hid (ChgL k.all w w7) := (ChgL.of B2.out).trans k7
    have Z7 : Hid (FlZ w7 Q noC) := Z2.out.chgL k7 HNQ.out
    have HRU : Hid ((x.stp j p.fl true).ru = x.ru) := by show _ = _; unfold No.stp; split <;> rfl
    clear n7 k7
    obtain ⟨c, hc⟩ : ∃ c, x.T j = c := ⟨_, rfl⟩
    rw [hc]
    rw [hc] at HF
    clear hc
    obtain ⟨w9, hst, hz9, hc9⟩ := flz_store Z7.out c
    obtain ⟨n9, k9⟩ := HN.out.fresh N7.out HRU.out X7.out hc9 (by omega)
    have N9 : Hid (Nd w0 w9 k (x.stp j p.fl true) (m + 1) n) := n9
    have K9 : Hid (ChgL k.all w w9) := k9
    have Z9 : Hid (FlZ w9 Q c) := hz9
    clear n9 k9 hz9 hc9
    simp only [flowV]
    go_wp2_with (refine wpList_store_eq rfl 77 _ _ rfl _ _ _ rfl rfl hst ?_)
    clear hst
    have q := Z9.out.b
    go_wp2_with fail
    exact bodyPost_ret (v := .tuple #[flowV c, .nilIface]) (by simp [results, Tryd.results31, go_sem, q.c0, q.c1, q.c2, q.c3, q.c4, q.c5, q.c6, q.c7, flowV]) rfl ⟨by rw [HF.out.1, HF.out.2.1]; rfl, by rw [HF.out.2.2]; exact N9.out, K9.out⟩
  | none =>
    have HF : Hid (x.ouF p = x.bgF p ∧ x.ouE p = x.bgE p ∧ x.ou p = x.bg p) := by unfold No.ouF No.ouE No.ou; rw [HO.out]; exact ⟨rfl, rfl, rfl⟩
    simp only [Option.isSome_none, Option.getD_none]
    go_wp2_with fail
    clear r0 r1 r2 r3 r4 r5
    refine (begin_nd HS.out N2.out HW.out.2.2 HW.out.1 HW.out.2.1 HR.out p HP.out HPP.out).mono ?_
    rintro e w7 ⟨rfl, n7, k7⟩
    have N7 : Hid (Nd w0 w7 k (x.bg p) (m + 1) n) := n7
    have X7 : Hid (ChgL k.all w w7) := (ChgL.of B2.out).trans k7
    have Z7 : Hid (FlZ w7 Q noC) := Z2.out.chgL k7 HNQ.out
    have HRU : Hid ((x.bg p).ru = x.ru) := by show _ = _; unfold No.bg; split <;> rfl
    clear n7 k7
    obtain ⟨c, hc⟩ : ∃ c, x.bgF p = c := ⟨_, rfl⟩
    obtain ⟨ev, hev⟩ : ∃ ev, terr s (x.bgE p) = ev := ⟨_, rfl⟩
    have HEV : Hid (terr s (x.ouE p) = ev) := by show _ = _; rw [HF.out.2.1]; exact hev
    rw [hc, hev]
    rw [hc] at HF
    clear hc hev
    obtain ⟨w9, hst, hz9, hc9⟩ := flz_store Z7.out c
    obtain ⟨n9, k9⟩ := HN.out.fresh N7.out HRU.out X7.out hc9 (by omega)
    have N9 : Hid (Nd w0 w9 k (x.bg p) (m + 1) n) := n9
    have K9 : Hid (ChgL k.all w w9) := k9
    have Z9 : Hid (FlZ w9 Q c) := hz9
    clear n9 k9 hz9 hc9
    simp only [flowV]
    go_wp2_with (refine wpList_store_eq rfl 77 _ _ rfl _ _ _ rfl rfl hst ?_)
    clear hst
    have q := Z9.out.b
    go_wp2_with fail
    exact bodyPost_ret (v := .tuple #[flowV c, ev]) (by simp [results, Tryd.results31, go_sem, q.c0, q.c1, q.c2, q.c3, q.c4, q.c5, q.c6, q.c7, flowV]) rfl ⟨by rw [HF.out.1, HEV.out], by rw [HF.out.2.2]; exact N9.out, K9.out⟩
end Go.Proofs.YtjhajhbelnlcoaaDoor
