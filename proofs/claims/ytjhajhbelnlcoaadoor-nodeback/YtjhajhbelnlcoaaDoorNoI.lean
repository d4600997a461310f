/-
  Package node's begin.
-/
import Derived.Test.YtjhajhbelnlcoaaDoorNoH
import Derived.Test.YtjhajhbelnlcoaaDoorKg
import Derived.Test.YtjhajhbelnlcoaaDoorKd
namespace Go.Proofs.YtjhajhbelnlcoaaDoor
open Go.RowKit

/-- a packet's own block. -/
def PkZ (w : World) (Q : Nat) (p : Pk) : Prop := w.heap[Q]? = some (.cells #[.int .i64 p.pr, .int .i64 p.a1, .int .i64 p.p1, .int .i64 p.a2, .int .i64 p.p2, .int .i64 p.fl] 41 (0, 0))
theorem PkZ.lt {w : World} {Q : Nat} {p : Pk} (h : PkZ w Q p) : Q < w.heap.size := by
  rcases Nat.lt_or_ge Q w.heap.size with a | a
  · exact a
  · unfold PkZ at h; rw [Array.getElem?_eq_none a] at h; cases h
theorem PkZ.below {w w' : World} {Q : Nat} {p : Pk} (h : PkZ w Q p) (hb : Below w.heap.size w w') : PkZ w' Q p := by unfold PkZ; rw [hb.block Q h.lt]; exact h
theorem PkZ.chgL {w w' : World} {Q : Nat} {p : Pk} {l : List Nat} (h : PkZ w Q p) (hb : ChgL l w w') (hn : ¬ Q ∈ l) : PkZ w' Q p := by unfold PkZ; rw [hb.block Q h.lt hn]; exact h
theorem PkZ.c {w : World} {Q : Nat} {p : Pk} (h : PkZ w Q p) (i : Nat) : w.cell? ⟨Q, i, none⟩ = (#[.int .i64 p.pr, .int .i64 p.a1, .int .i64 p.p1, .int .i64 p.a2, .int .i64 p.p2, .int .i64 p.fl] : Array Value)[i]? := cell_of_row w _ _ _ _ _ h
theorem PkZ.fr {w : World} {Q : Nat} {p : Pk} (h : PkZ w Q p) (i : Nat) : w.frozen? ⟨Q, i, none⟩ = false := frozen_of_row w _ i _ _ h
/-- its six cells. -/
structure PkB6 (w : World) (Q : Nat) (p : Pk) : Prop where
  c0 : w.cell? ⟨Q, 0, none⟩ = some (.int .i64 p.pr)
  c1 : w.cell? ⟨Q, 1, none⟩ = some (.int .i64 p.a1)
  c2 : w.cell? ⟨Q, 2, none⟩ = some (.int .i64 p.p1)
  c3 : w.cell? ⟨Q, 3, none⟩ = some (.int .i64 p.a2)
  c4 : w.cell? ⟨Q, 4, none⟩ = some (.int .i64 p.p2)
  c5 : w.cell? ⟨Q, 5, none⟩ = some (.int .i64 p.fl)
theorem PkZ.b {w : World} {Q : Nat} {p : Pk} (h : PkZ w Q p) : PkB6 w Q p := ⟨h.c 0, h.c 1, h.c 2, h.c 3, h.c 4, h.c 5⟩
theorem PkZ.new (w : World) (p : Pk) : PkZ (w.alloc (.cells #[.int .i64 p.pr, .int .i64 p.a1, .int .i64 p.p1, .int .i64 p.a2, .int .i64 p.p2, .int .i64 p.fl] 41)) w.heap.size p := heap_alloc_new w _

/-- a flow that begins. -/
def No.addR (x : No) (p : Pk) : Nat × Nat × Tb := addT x.T x.low p.pr p.a1 p.p1 p.a2 p.p2 (bgnS p.pr p.fl) (x.now + stay p.pr (bgnS p.pr p.fl))
def No.bgE (x : No) (p : Pk) : Nat := if adm x.ru p.pr true p.p2 then (if bgnE p.pr p.fl = 0 then (x.addR p).2.1 else bgnE p.pr p.fl) else 8
def No.bg (x : No) (p : Pk) : No := if x.bgE p = 0 then { x with T := (x.addR p).2.2 } else x
def No.bgF (x : No) (p : Pk) : Ce := if x.bgE p = 0 then (x.addR p).2.2 (x.addR p).1 else noC
theorem bgn_in {pr fl : Int} : In6 (bgnS pr fl) := by unfold bgnS; repeat' split; all_goals exact In6.small (by omega) (by omega)
theorem addT_keeps {T : Tb} {low pr ia ip fa fp st un : Int} (h : (addT T low pr ia ip fa fp st un).2.1 ≠ 0) : (addT T low pr ia ip fa fp st un).2.2 = T := by
  revert h
  unfold addT
  repeat' split
  all_goals simp
theorem addT_lt {T : Tb} {low pr ia ip fa fp st un : Int} (h : (addT T low pr ia ip fa fp st un).2.1 = 0) : (addT T low pr ia ip fa fp st un).1 < 32 := by
  revert h
  unfold addT
  repeat' split
  all_goals simp
  all_goals exact fst_lt (by assumption)
theorem tadd_nd {w0 w : World} {k : Bk} {x : No} {m n : Nat} {s : Nat → Addr} (S : SeM w0 s) (h : Nd w0 w k x m n) (hm : m ≤ 1000000) (p : Pk) (hp : In6 p.pr) :
    Calls Tryd.prog 69 #[.pointer (some ⟨k.tb, 0, none⟩), .int .i64 p.pr, .agg #[.int .i64 p.a1, .int .i64 p.p1], .agg #[.int .i64 p.a2, .int .i64 p.p2], .int .i64 (bgnS p.pr p.fl), .int .i64 (x.now + stay p.pr (bgnS p.pr p.fl))] w fun e w' => e = .returned (.tuple #[.int .i64 ((x.addR p).1 : Nat), terr s (x.addR p).2.1]) ∧ Nd w0 w' k { x with T := (x.addR p).2.2 } (m + 1) n ∧ ChgL k.all w w' := by
  have hid := h.id
  have hlow : 0 ≤ x.low ∧ x.low ≤ 100000 := by unfold No.low; omega
  refine (add_an2 k.tb x.low x.T p.pr p.a1 p.p1 p.a2 p.p2 (bgnS p.pr p.fl) (x.now + stay p.pr (bgnS p.pr p.fl)) m s w (S.below h.bl).n.s45 h.tb hlow.1 hlow.2 h.vs hm).mono ?_
  rintro e w' ⟨rfl, t, q⟩
  exact ⟨rfl, h.onTb t (h.vs.add _ _ _ _ _ _ _ _) (h.wt.add _ _ _ _ _ _ _ _ hp bgn_in) q, ChgL.one q k.m_tb⟩
theorem adm_v {s : Nat → Addr} {w : World} {l : List Rl} {p : Pk} {v : Value} {b : Bool} (h : RulesOk l) (hp : p.err = 0) (a : AdmV s w l p.pr p.a1 p.p1 p.a2 p.p2 p.fl true v b) : v = .nilIface ∧ b = adm l p.pr true p.p2 := by
  rcases a with ⟨q, _⟩ | ⟨_, ⟨e, q, _⟩, _⟩ | ⟨_, _, q1, q2⟩
  · exact absurd h q
  · unfold Pk.err at hp; rw [q] at hp; cases hp
  · exact ⟨q1, q2⟩
theorem set0_chg (w : World) (Q : Nat) : Chg Q w ((((((((w.setCell ⟨Q, 0, none⟩ (.int .i64 0)).setCell ⟨Q, 1, none⟩ (.int .i64 0)).setCell ⟨Q, 2, none⟩ (.int .i64 0)).setCell ⟨Q, 3, none⟩ (.int .i64 0)).setCell ⟨Q, 4, none⟩ (.int .i64 0)).setCell ⟨Q, 5, none⟩ (.int .i64 0)).setCell ⟨Q, 6, none⟩ (.int .i64 0)).setCell ⟨Q, 7, none⟩ (.int .i64 0)) :=
  (((((((Chg.set _ _ _ _).trans (Chg.set _ _ _ _)).trans (Chg.set _ _ _ _)).trans (Chg.set _ _ _ _)).trans (Chg.set _ _ _ _)).trans (Chg.set _ _ _ _)).trans (Chg.set _ _ _ _)).trans (Chg.set _ _ _ _)
set_option maxRecDepth 100000 in
set_option maxHeartbeats 4000000 in
theorem begin_nd {w0 w : World} {k : Bk} {x : No} {m n : Nat} {s : Nat → Addr} (S : SeM w0 s) (h : Nd w0 w k x m n) (hm : m ≤ 1000000) (h0 : 0 ≤ x.now) (h1 : x.now ≤ 1000000000) (hr : RulesOk x.ru) (p : Pk) (hp : p.err = 0) (hpp : In6 p.pr) :
    Calls Tryd.prog 49 #[.pointer (some ⟨k.nd, 0, none⟩), p.v] w fun e w' => e = .returned (.tuple #[flowV (x.bgF p), terr s (x.bgE p)]) ∧ Nd w0 w' k (x.bg p) (m + 1) n ∧ ChgL k.all w w' := by
  have HS : Hid (SeM w0 s) := S
  have HN : Hid (Nd w0 w k x m n) := h
  have HW : Hid (0 ≤ x.now ∧ x.now ≤ 1000000000 ∧ m ≤ 1000000) := ⟨h0, h1, hm⟩
  have HR : Hid (RulesOk x.ru) := hr
  have HP : Hid (p.err = 0) := hp
  have HPP : Hid (In6 p.pr) := hpp
  clear S h h0 h1 hm hr hp hpp
  go_enter Tryd.func49, Tryd.ntmps49
  go_upto_region 1 with fail
  go_wp2_with fail
  have B0 := aB w (.cells #[.int .i64 p.pr, .int .i64 p.a1, .int .i64 p.p1, .int .i64 p.a2, .int .i64 p.p2, .int .i64 p.fl] 41)
  have P1 : Hid (PkZ ((w.alloc (.cells #[.int .i64 p.pr, .int .i64 p.a1, .int .i64 p.p1, .int .i64 p.a2, .int .i64 p.p2, .int .i64 p.fl] 41)).alloc (.cells #[.int .i64 0, .int .i64 0, .int .i64 0, .int .i64 0, .int .i64 0, .int .i64 0, .int .i64 0, .int .i64 0] 77)) w.heap.size p) := (PkZ.new w p).below (aB _ _)
  have B1 : Hid (Below w.heap.size w ((w.alloc (.cells #[.int .i64 p.pr, .int .i64 p.a1, .int .i64 p.p1, .int .i64 p.a2, .int .i64 p.p2, .int .i64 p.fl] 41)).alloc (.cells #[.int .i64 0, .int .i64 0, .int .i64 0, .int .i64 0, .int .i64 0, .int .i64 0, .int .i64 0, .int .i64 0] 77))) := t2 B0 (aB _ _)
  have Z1 : Hid (FlZ ((w.alloc (.cells #[.int .i64 p.pr, .int .i64 p.a1, .int .i64 p.p1, .int .i64 p.a2, .int .i64 p.p2, .int .i64 p.fl] 41)).alloc (.cells #[.int .i64 0, .int .i64 0, .int .i64 0, .int .i64 0, .int .i64 0, .int .i64 0, .int .i64 0, .int .i64 0] 77)) (w.heap.size + 1) noC) := by
    have := FlZ.zero (w.alloc (.cells #[.int .i64 p.pr, .int .i64 p.a1, .int .i64 p.p1, .int .i64 p.a2, .int .i64 p.p2, .int .i64 p.fl] 41))
    show FlZ _ _ _
    simpa using this
  clear B0
  generalize (w.alloc (.cells #[.int .i64 p.pr, .int .i64 p.a1, .int .i64 p.p1, .int .i64 p.a2, .int .i64 p.p2, .int .i64 p.fl] 41)).alloc (.cells #[.int .i64 0, .int .i64 0, .int .i64 0, .int .i64 0, .int .i64 0, .int .i64 0, .int .i64 0, .int .i64 0] 77) = w1 at *
  have N1 : Hid (Nd w0 w1 k x m n) := HN.out.below B1.out
  have LW : Hid (w.heap.size ≤ w.heap.size) := Nat.le_refl _
  have LQ : Hid (w.heap.size ≤ w.heap.size + 1) := Nat.le_succ _
  generalize hPe : w.heap.size = P at P1 Z1 LW LQ ⊢
  generalize hQe : P + 1 = Q at Z1 LQ ⊢
  have S1 : Hid (∀ u, Below w1.heap.size w1 u → SeM u s) := fun u hu => (HS.out.below N1.out.bl).below hu
  have HNQ : Hid (¬ Q ∈ k.all) := fun hm => by have := HN.out.lt _ hm; omega
  have HNP : Hid (¬ P ∈ k.all) := fun hm => by have := HN.out.lt _ hm; omega
  have HAD : Hid (∀ u, Nd w0 u k x m n → Calls Tryd.prog 67 #[.slice k.rp x.ru.length k.rc, pkt p.pr p.a1 p.p1 p.a2 p.p2 p.fl, .bool true] u fun e w' => e = .returned (.tuple #[.bool (adm x.ru p.pr true p.p2), .nilIface]) ∧ Below u.heap.size u w') := fun u hu => by
    refine (admits_any k.rp x.ru k.rc p.pr p.a1 p.p1 p.a2 p.p2 p.fl true s u (HS.out.below hu.bl).n.sn hu.ru (by have := HR.out.1; omega)).mono ?_
    rintro e w' ⟨⟨v, b, rfl, a⟩, hb⟩
    obtain ⟨rfl, rfl⟩ := adm_v HR.out HP.out a
    exact ⟨rfl, hb⟩
  have hS : w1.drew.cell? ⟨k.nd, 4, none⟩ = some (.slice k.rp x.ru.length k.rc) ∧ PkB6 w1.drew P p := ⟨N1.out.c4, (P1.out.below (Below.refl _ _).drew).b⟩
  obtain ⟨g4, q0, q1, q2, q3, q4, q5⟩ := hS
  have hS : w1.drew.cell? ⟨k.nd, 4, none⟩ = some (.slice k.rp x.ru.length k.rc) ∧ w1.drew.cell? ⟨P, 0, none⟩ = some (.int .i64 p.pr) ∧ w1.drew.cell? ⟨P, 1, none⟩ = some (.int .i64 p.a1) ∧ w1.drew.cell? ⟨P, 2, none⟩ = some (.int .i64 p.p1) ∧ w1.drew.cell? ⟨P, 3, none⟩ = some (.int .i64 p.a2) ∧ w1.drew.cell? ⟨P, 4, none⟩ = some (.int .i64 p.p2) ∧ w1.drew.cell? ⟨P, 5, none⟩ = some (.int .i64 p.fl) := ⟨g4, q0, q1, q2, q3, q4, q5⟩
  clear g4 q0 q1 q2 q3 q4 q5
  obtain ⟨ad, had⟩ : ∃ ad, adm x.ru p.pr true p.p2 = ad := ⟨_, rfl⟩
  have HADE : Hid (adm x.ru p.pr true p.p2 = ad) := had
  rw [had] at HAD
  clear had
  go_region_held3 (fun w' => w'.cell? ⟨k.nd, 4, none⟩ = some (.slice k.rp x.ru.length k.rc) ∧ w'.cell? ⟨P, 0, none⟩ = some (.int .i64 p.pr) ∧ w'.cell? ⟨P, 1, none⟩ = some (.int .i64 p.a1) ∧ w'.cell? ⟨P, 2, none⟩ = some (.int .i64 p.p1) ∧ w'.cell? ⟨P, 3, none⟩ = some (.int .i64 p.a2) ∧ w'.cell? ⟨P, 4, none⟩ = some (.int .i64 p.p2) ∧ w'.cell? ⟨P, 5, none⟩ = some (.int .i64 p.fl))
    (first | assumption | exact ⟨tk hb2 hS.1, tk hb2 hS.2.1, tk hb2 hS.2.2.1, tk hb2 hS.2.2.2.1, tk hb2 hS.2.2.2.2.1, tk hb2 hS.2.2.2.2.2.1, tk hb2 hS.2.2.2.2.2.2⟩)
    (first | (go_at_call 67; refine (HAD.out _ N1.out.drew).mono ?_; rintro e w2 ⟨rfl, hb2⟩))
  have B2 : Hid (Below w.heap.size w w2) := t2 (t2 B1.out (Below.refl _ _).drew) hb2
  have N2 : Hid (Nd w0 w2 k x m n) := HN.out.below B2.out
  have P2 : Hid (PkZ w2 P p) := (P1.out.below (Below.refl _ _).drew).below hb2
  have Z2 : Hid (FlZ w2 Q noC) := (Z1.out.below (Below.refl _ _).drew).below hb2
  have S2 : Hid (SeM w2 s) := HS.out.below N2.out.bl
  clear hS hb2 B1 N1 P1 Z1 S1 HAD
  cases ad
  · have HE : Hid (x.bgE p = 8) := by show _ = _; unfold No.bgE; rw [HADE.out]; rfl
    have HB : Hid (x.bg p = x) := by show _ = _; unfold No.bg; rw [HE.out]; rfl
    have HF : Hid (x.bgF p = noC) := by show _ = _; unfold No.bgF; rw [HE.out]; rfl
    have s7 := S2.out.c7
    have hGQ : 8 ≠ Q := by have hg : 8 < w0.heap.size := tlt HS.out.c7; have := HN.out.bl.size; omega
    have z := Z2.out.b
    have z0 := z.c0
    have z1 := z.c1
    have z2 := z.c2
    have z3 := z.c3
    have z4 := z.c4
    have z5 := z.c5
    have z6 := z.c6
    have z7 := z.c7
    have zf := Z2.out.fr
    simp only [noC] at z0 z1 z2 z3 z4 z5 z6 z7
    clear z
    go_wp2_with fail
    go_region
    all_goals go_wp2_with fail
    all_goals
      refine bodyPost_ret (v := .tuple #[flowV noC, .iface 161 (.pointer (some (s 7)))]) (by simp [results, Tryd.results49, go_sem, z0, z1, z2, z3, z4, z5, z6, z7, flowV, noC]) rfl ?_
      rw [HF.out, HE.out, HB.out]
      have hcc : ∀ W, Chg Q w2 W → Nd w0 W k x m n ∧ ChgL k.all w W := fun W hc => HN.out.fresh N2.out rfl (ChgL.of B2.out) hc (by omega)
      refine ⟨rfl, (fun q => ⟨q.1.more (by omega), q.2⟩) (hcc _ ?_)⟩
      exact (set0_chg w2 Q).then (Below.refl _ _).drew
  · have HA : Hid (x.bgE p = if bgnE p.pr p.fl = 0 then (x.addR p).2.1 else bgnE p.pr p.fl) := by show _ = _; unfold No.bgE; rw [HADE.out]; rfl
    have p0 := P2.out.b.c0
    have p5 := P2.out.b.c5
    go_wp2_with fail
    clear p0 p5
    refine (begin_any p.pr p.fl s w2 ⟨S2.out.c1, S2.out.c8⟩).mono ?_
    rintro e w3 ⟨rfl, hb3⟩
    have B3 : Hid (Below w.heap.size w w3) := t2 B2.out hb3
    have N3 : Hid (Nd w0 w3 k x m n) := HN.out.below B3.out
    have P3 : Hid (PkZ w3 P p) := P2.out.below hb3
    have Z3 : Hid (FlZ w3 Q noC) := Z2.out.below hb3
    clear hb3 B2 N2 P2 Z2 S2
    by_cases hz : bgnE p.pr p.fl = 0
    · rw [if_pos hz] at HA
      rw [hz]
      clear hz
      simp only [bgnV]
      have HTU : Hid (∀ u, Nd w0 u k x m n → Calls Tryd.prog 56 #[.pointer (some ⟨k.nd, 0, none⟩), .int .i64 p.pr, .int .i64 (bgnS p.pr p.fl)] u fun e w' => e = .returned (.int .i64 (x.now + stay p.pr (bgnS p.pr p.fl))) ∧ Below u.heap.size u w') := fun u hu => until_nd hu p.pr _ HPP.out bgn_in HW.out.1 HW.out.2.1
      have HTA : Hid (∀ u, Nd w0 u k x m n → Calls Tryd.prog 69 #[.pointer (some ⟨k.tb, 0, none⟩), .int .i64 p.pr, .agg #[.int .i64 p.a1, .int .i64 p.p1], .agg #[.int .i64 p.a2, .int .i64 p.p2], .int .i64 (bgnS p.pr p.fl), .int .i64 (x.now + stay p.pr (bgnS p.pr p.fl))] u fun e w' => e = .returned (.tuple #[.int .i64 ((x.addR p).1 : Nat), terr s (x.addR p).2.1]) ∧ Nd w0 w' k { x with T := (x.addR p).2.2 } (m + 1) n ∧ ChgL k.all u w') := fun u hu => tadd_nd HS.out hu HW.out.2.2 p HPP.out
      generalize bgnS p.pr p.fl = bs at HTU HTA ⊢
      generalize x.now + stay p.pr bs = un at HTU HTA ⊢
      go_upto_region 7 with fail
      go_wp2_with fail
      obtain ⟨q0, q1, q2, q3, q4, _⟩ := (P3.out.below (Below.refl _ _).drew).b
      have hS : w3.drew.cell? ⟨k.nd, 6, none⟩ = some (.pointer (some ⟨k.te, 0, none⟩)) ∧ w3.drew.cell? ⟨k.te, 0, none⟩ = some (.pointer (some ⟨k.tb, 0, none⟩)) ∧ w3.drew.cell? ⟨P, 0, none⟩ = some (.int .i64 p.pr) ∧ w3.drew.cell? ⟨P, 1, none⟩ = some (.int .i64 p.a1) ∧ w3.drew.cell? ⟨P, 2, none⟩ = some (.int .i64 p.p1) ∧ w3.drew.cell? ⟨P, 3, none⟩ = some (.int .i64 p.a2) ∧ w3.drew.cell? ⟨P, 4, none⟩ = some (.int .i64 p.p2) := ⟨N3.out.c6, N3.out.t0, q0, q1, q2, q3, q4⟩
      clear q0 q1 q2 q3 q4
      go_region_held3 (fun w' => w'.cell? ⟨k.nd, 6, none⟩ = some (.pointer (some ⟨k.te, 0, none⟩)) ∧ w'.cell? ⟨k.te, 0, none⟩ = some (.pointer (some ⟨k.tb, 0, none⟩)) ∧ w'.cell? ⟨P, 0, none⟩ = some (.int .i64 p.pr) ∧ w'.cell? ⟨P, 1, none⟩ = some (.int .i64 p.a1) ∧ w'.cell? ⟨P, 2, none⟩ = some (.int .i64 p.p1) ∧ w'.cell? ⟨P, 3, none⟩ = some (.int .i64 p.a2) ∧ w'.cell? ⟨P, 4, none⟩ = some (.int .i64 p.p2))
        (first | assumption | exact ⟨tk hb5 hS.1, tk hb5 hS.2.1, tk hb5 hS.2.2.1, tk hb5 hS.2.2.2.1, tk hb5 hS.2.2.2.2.1, tk hb5 hS.2.2.2.2.2.1, tk hb5 hS.2.2.2.2.2.2⟩ | exact ⟨N6.out.c6, N6.out.t0, K6.out.keeps HNP.out (tk hb5 hS.2.2.1), K6.out.keeps HNP.out (tk hb5 hS.2.2.2.1), K6.out.keeps HNP.out (tk hb5 hS.2.2.2.2.1), K6.out.keeps HNP.out (tk hb5 hS.2.2.2.2.2.1), K6.out.keeps HNP.out (tk hb5 hS.2.2.2.2.2.2)⟩)
        (first
          | (go_at_call 56; refine (HTU.out _ N3.out.drew).mono ?_; rintro e w5 ⟨rfl, hb5⟩)
          | (go_at_call 69; refine (HTA.out _ (N3.out.drew.below hb5)).mono ?_; rintro e w6 ⟨rfl, n6, k6⟩; have N6 : Hid (Nd w0 w6 k { x with T := (x.addR p).2.2 } (m + 1) n) := n6; have K6 : Hid (ChgL k.all w5 w6) := k6; clear n6 k6))
      have Z6 : Hid (FlZ w6 Q noC) := ((Z3.out.below (Below.refl _ _).drew).below hb5).chgL K6.out HNQ.out
      have X6 : Hid (ChgL k.all w w6) := (ChgL.of (t2 (t2 B3.out (Below.refl _ _).drew) hb5)).trans K6.out
      clear hS hb5 K6 B3 N3 P3 Z3 HTU HTA
      by_cases hae : (x.addR p).2.1 = 0
      · have HE : Hid (x.bgE p = 0) := by show _ = _; rw [HA.out, hae]
        have HB : Hid (x.bg p = { x with T := (x.addR p).2.2 }) := by show _ = _; unfold No.bg; rw [HE.out]; rfl
        have HF : Hid (x.bgF p = (x.addR p).2.2 (x.addR p).1) := by show _ = _; unfold No.bgF; rw [HE.out]; rfl
        have HLT : Hid ((x.addR p).1 < 32) := addT_lt hae
        rw [hae]
        simp only [terr]
        go_wp2_with fail
        refine (flow_nd N6.out (x.addR p).1 HLT.out).mono ?_
        rintro e w7 ⟨rfl, hb7⟩
        have N7 : Hid (Nd w0 w7 k { x with T := (x.addR p).2.2 } (m + 1) n) := N6.out.below hb7
        have X7 : Hid (ChgL k.all w w7) := X6.out.then hb7
        have Z7 : Hid (FlZ w7 Q noC) := Z6.out.below hb7
        clear hb7 N6 X6 Z6 hae
        obtain ⟨c, hc⟩ : ∃ c, (x.addR p).2.2 (x.addR p).1 = c := ⟨_, rfl⟩
        rw [show ({ x with T := (x.addR p).2.2 } : No).T (x.addR p).1 = c from hc]
        rw [hc] at HF
        clear hc
        obtain ⟨w9, hst, hz9, hc9⟩ := flz_store Z7.out c
        obtain ⟨n9, k9⟩ := HN.out.fresh N7.out rfl X7.out hc9 (by omega)
        have N9 : Hid (Nd w0 w9 k { x with T := (x.addR p).2.2 } (m + 1) n) := n9
        have K9 : Hid (ChgL k.all w w9) := k9
        have Z9 : Hid (FlZ w9 Q c) := hz9
        clear n9 k9 hz9 hc9
        simp only [flowV]
        go_wp2_with (refine wpList_store_eq rfl 77 _ _ rfl _ _ _ rfl rfl hst ?_)
        clear hst
        have q := Z9.out.b
        go_wp2_with fail
        exact bodyPost_ret (v := .tuple #[flowV c, .nilIface]) (by simp [results, Tryd.results49, go_sem, q.c0, q.c1, q.c2, q.c3, q.c4, q.c5, q.c6, q.c7, flowV]) rfl ⟨by rw [HF.out, HE.out]; rfl, by rw [HB.out]; exact N9.out, K9.out⟩
      · have HE : Hid (x.bgE p = (x.addR p).2.1) := HA.out
        have HB : Hid (x.bg p = x) := by show _ = _; unfold No.bg; rw [if_neg (by rw [HE.out]; exact hae)]
        have HF : Hid (x.bgF p = noC) := by show _ = _; unfold No.bgF; rw [if_neg (by rw [HE.out]; exact hae)]
        have HTT : Hid ((x.addR p).2.2 = x.T) := addT_keeps hae
        obtain ⟨e1, he1⟩ : ∃ e1, (x.addR p).2.1 = e1 + 1 := ⟨(x.addR p).2.1 - 1, by omega⟩
        rw [he1] at HE ⊢
        clear hae he1
        simp only [terr]
        obtain ⟨w9, hst0, hz9, hc9⟩ := flz_store Z6.out noC
        have hst : (Instr.storeAt 77 (.pointer (some ⟨Q, 0, none⟩)) (.agg #[.int .i64 0, .int .i64 0, .int .i64 0, .int .i64 0, .int .i64 0, .int .i64 0, .int .i64 0, .int .i64 0])).run Tryd.prog w6 = .ok () w9 := hst0
        obtain ⟨n9, k9⟩ := HN.out.fresh N6.out rfl X6.out hc9 (by omega)
        have N9 : Hid (Nd w0 w9 k x (m + 1) n) := by rw [HTT.out] at n9; exact n9
        have K9 : Hid (ChgL k.all w w9) := k9
        have Z9 : Hid (FlZ w9 Q noC) := hz9
        clear n9 k9 hz9 hc9 hst0
        go_wp2_with (refine wpList_store_eq rfl 77 _ _ rfl _ _ _ rfl rfl hst ?_)
        clear hst
        have q := Z9.out.b
        go_wp2_with fail
        exact bodyPost_ret (v := .tuple #[flowV noC, .iface 161 (.pointer (some (s e1)))]) (by simp [results, Tryd.results49, go_sem, q.c0, q.c1, q.c2, q.c3, q.c4, q.c5, q.c6, q.c7, flowV]) rfl ⟨by rw [HF.out, HE.out]; rfl, by rw [HB.out]; exact N9.out, K9.out⟩
    · rw [if_neg hz] at HA
      have HB : Hid (x.bg p = x) := by show _ = _; unfold No.bg; rw [if_neg (by rw [HA.out]; exact hz)]
      have HF : Hid (x.bgF p = noC) := by show _ = _; unfold No.bgF; rw [if_neg (by rw [HA.out]; exact hz)]
      obtain ⟨e1, he1⟩ : ∃ e1, bgnE p.pr p.fl = e1 + 1 := ⟨bgnE p.pr p.fl - 1, by omega⟩
      have HE : Hid (x.bgE p = e1 + 1) := by show _ = _; rw [HA.out, he1]
      rw [he1]
      clear hz he1 HA
      simp only [bgnV]
      obtain ⟨w9, hst0, hz9, hc9⟩ := flz_store Z3.out noC
      have hst : (Instr.storeAt 77 (.pointer (some ⟨Q, 0, none⟩)) (.agg #[.int .i64 0, .int .i64 0, .int .i64 0, .int .i64 0, .int .i64 0, .int .i64 0, .int .i64 0, .int .i64 0])).run Tryd.prog w3 = .ok () w9 := hst0
      obtain ⟨n9, k9⟩ := HN.out.fresh N3.out rfl (ChgL.of B3.out) hc9 (by omega)
      have N9 : Hid (Nd w0 w9 k x m n) := n9
      have K9 : Hid (ChgL k.all w w9) := k9
      have Z9 : Hid (FlZ w9 Q noC) := hz9
      clear n9 k9 hz9 hc9 hst0
      go_wp2_with (refine wpList_store_eq rfl 77 _ _ rfl _ _ _ rfl rfl hst ?_)
      clear hst
      have q := Z9.out.b
      go_wp2_with fail
      exact bodyPost_ret (v := .tuple #[flowV noC, .iface 161 (.pointer (some (s e1)))]) (by simp [results, Tryd.results49, go_sem, q.c0, q.c1, q.c2, q.c3, q.c4, q.c5, q.c6, q.c7, flowV]) rfl ⟨by rw [HF.out, HE.out]; rfl, by rw [HB.out]; exact N9.out.more (by omega), K9.out⟩
end Go.Proofs.YtjhajhbelnlcoaaDoor
