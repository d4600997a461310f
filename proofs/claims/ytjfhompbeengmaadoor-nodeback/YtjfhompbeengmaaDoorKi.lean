/-
  Texts in one: NoH NoI NoJ NoK NoO.
-/
import Derived.Test.YtjfhompbeengmaaDoorNoG
import Derived.Deep.DeepCutAuto
import Derived.Deep.CutRange
import Derived.Test.YtjfhompbeengmaaDoorKg
import Derived.Test.YtjfhompbeengmaaDoorKd
namespace Go.Proofs.YtjfhompbeengmaaDoor
open Go.RowKit

/-- a packet of a flow. -/
def No.nst (x : No) (j : Nat) (fl : Int) (ou : Bool) : Int := nxtS (x.T j).pr (x.T j).st fl ou
def No.stp (x : No) (j : Nat) (fl : Int) (ou : Bool) : No :=
  if nxtG (x.T j).pr fl then { x with T := dropT x.T j } else { x with T := setT x.T j (x.nst j fl ou) (x.now + stay (x.T j).pr (x.nst j fl ou)) }
theorem nst_in {x : No} {j : Nat} {fl : Int} {ou : Bool} (h : In6 (x.T j).st) : In6 (x.nst j fl ou) := by
  unfold No.nst nxtS
  repeat' split
  all_goals first | exact h | exact In6.small (by omega) (by omega)
theorem tset_nd {w0 w : World} {k : Bk} {x : No} {m n : Nat} {s : Nat → Addr} (S : SeM w0 s) (h : Nd w0 w k x m n) (hm : m ≤ 1000000000) (j st un : Int) (hs : In6 st) :
    Calls Tryd.prog 55 #[.pointer (some ⟨k.tb, 0, none⟩), .int .i64 j, .int .i64 st, .int .i64 un] w fun e w' => (∃ v, e = .returned v) ∧ Nd w0 w' k { x with T := setT x.T j st un } (m + 1) n ∧ ChgL k.all w w' := by
  refine (set_any k.tb x.low x.T j st un m s w (S.below h.bl).s4 h.tb h.vs hm).mono ?_
  rintro e w' ⟨rfl, t, q⟩
  exact ⟨⟨_, rfl⟩, h.onTb t (h.vs.set _ _ _) (h.wt.set _ _ _ hs) q, ChgL.one q k.m_tb⟩
theorem tdrop_nd {w0 w : World} {k : Bk} {x : No} {m n : Nat} {s : Nat → Addr} (S : SeM w0 s) (h : Nd w0 w k x m n) (hm : m ≤ 1000000000) (j : Int) :
    Calls Tryd.prog 54 #[.pointer (some ⟨k.tb, 0, none⟩), .int .i64 j] w fun e w' => (∃ v, e = .returned v) ∧ Nd w0 w' k { x with T := dropT x.T j } (m + 1) n ∧ ChgL k.all w w' := by
  refine (drop_any k.tb x.low x.T j m s w (S.below h.bl).s4 h.tb h.vs hm).mono ?_
  rintro e w' ⟨rfl, t, q⟩
  exact ⟨⟨_, rfl⟩, h.onTb t (h.vs.drop _) (h.wt.drop _) q, ChgL.one q k.m_tb⟩
/-- fresh blocks are written: all else is as it was. -/
theorem Nd.fresh {w0 w u u' : World} {k : Bk} {x y : No} {m n m' n' Q : Nat} (H : Nd w0 w k x m n) (h : Nd w0 u k y m' n') (hy : y.ru = x.ru) (c : ChgL k.all w u) (g : Chg Q u u') (hr : w.heap.size ≤ Q) : Nd w0 u' k y m' n' ∧ ChgL k.all w u' := by
  have g' : ChgL [Q] u u' := ChgL.one g (by simp)
  have hq : ∀ b ∈ [Q], w.heap.size ≤ b := fun b hb => by simp at hb; omega
  refine ⟨h.kept g' (fun b hb hm => ?_) (fun hn a e hm => ?_) (fun b hb => Nat.le_trans H.bl.size (hq b hb)), ?_⟩
  · have := hq b hm; have := H.lt b hb; omega
  · have := hq _ hm
    have hlt : a.block < w.heap.size := by
      have hn' : x.ru ≠ [] := by rw [← hy]; exact hn
      obtain ⟨r, hr'⟩ := List.exists_mem_of_ne_nil _ hn'
      obtain ⟨i, hi⟩ := List.getElem?_of_mem hr'
      obtain ⟨b, o, e2, h0, _⟩ := H.ru i r hi
      rw [e] at e2
      cases e2
      have q : b < w.heap.size := tlt h0
      exact q
    omega
  · have h1 : ChgL (k.all ++ [Q]) w u := c.mono (fun b hb => Or.inl (List.mem_append_left _ hb))
    have h2 : ChgL (k.all ++ [Q]) u u' := g'.mono (fun b hb => Or.inl (List.mem_append_right _ hb))
    exact (h1.trans h2).mono (fun b hb => by rcases List.mem_append.1 hb with q | q; exact Or.inl q; exact Or.inr (hq b q))
set_option maxRecDepth 100000 in
set_option maxHeartbeats 4000000 in
theorem step_nd {w0 w : World} {k : Bk} {x : No} {m n : Nat} {s : Nat → Addr} (S : SeM w0 s) (h : Nd w0 w k x m n) (hm : m ≤ 1000000000) (h0 : 0 ≤ x.now) (h1 : x.now ≤ 1000000000) (j : Nat) (hj : j < 32) (fl : Int) (ou : Bool) :
    Calls Tryd.prog 33 #[.pointer (some ⟨k.nd, 0, none⟩), .int .i64 j, .int .i64 fl, .bool ou] w fun e w' => e = .returned (flowV (x.T j)) ∧ Nd w0 w' k (x.stp j fl ou) (m + 1) n ∧ ChgL k.all w w' := by
  have HS : Hid (SeM w0 s) := S
  have HN : Hid (Nd w0 w k x m n) := h
  have HW : Hid (0 ≤ x.now ∧ x.now ≤ 1000000000 ∧ m ≤ 1000000000) := ⟨h0, h1, hm⟩
  have HJ : Hid (j < 32) := hj
  clear S h h0 h1 hm hj
  go_enter Tryd.func33, Tryd.ntmps33
  go_wp2_with fail
  have Z1 : Hid (FlZ (w.alloc (.cells #[.int .i64 0, .int .i64 0, .int .i64 0, .int .i64 0, .int .i64 0, .int .i64 0, .int .i64 0, .int .i64 0] 77)) w.heap.size noC) := FlZ.zero w
  have B1 : Hid (Below w.heap.size w (w.alloc (.cells #[.int .i64 0, .int .i64 0, .int .i64 0, .int .i64 0, .int .i64 0, .int .i64 0, .int .i64 0, .int .i64 0] 77))) := aB _ _
  generalize w.alloc (.cells #[.int .i64 0, .int .i64 0, .int .i64 0, .int .i64 0, .int .i64 0, .int .i64 0, .int .i64 0, .int .i64 0] 77) = w1 at *
  refine (flow_nd (HN.out.below B1.out) j HJ.out).mono ?_
  rintro e w2 ⟨rfl, hb2⟩
  have Z2 : Hid (FlZ w2 w.heap.size noC) := Z1.out.below hb2
  have B2 : Hid (Below w.heap.size w w2) := t2 B1.out hb2
  clear hb2 Z1 B1
  obtain ⟨c, hc⟩ : ∃ c, x.T j = c := ⟨_, rfl⟩
  have HCC : Hid (x.T j = c) := hc
  have HI : Hid (In6 c.pr ∧ In6 c.st) := hc ▸ HN.out.wt j HJ.out
  have HG : Hid (nxtG (x.T j).pr fl = nxtG c.pr fl ∧ x.nst j fl ou = nxtS c.pr c.st fl ou) := by rw [hc]; exact ⟨rfl, by unfold No.nst; rw [hc]⟩
  rw [hc]
  clear hc
  simp only [flowV]
  go_wp2_with fail
  have Z3 : Hid (FlZ (w2.alloc (.cells #[.int .i64 c.pr, .int .i64 c.ia, .int .i64 c.ip, .int .i64 c.fa, .int .i64 c.fp, .int .i64 c.po, .int .i64 c.st, .int .i64 c.un] 77)) w.heap.size noC) := Z2.out.below (aB _ _)
  have Y3 : Hid (FlZ (w2.alloc (.cells #[.int .i64 c.pr, .int .i64 c.ia, .int .i64 c.ip, .int .i64 c.fa, .int .i64 c.fp, .int .i64 c.po, .int .i64 c.st, .int .i64 c.un] 77)) w2.heap.size c) := FlZ.new w2 c
  have B3 : Hid (Below w.heap.size w (w2.alloc (.cells #[.int .i64 c.pr, .int .i64 c.ia, .int .i64 c.ip, .int .i64 c.fa, .int .i64 c.fp, .int .i64 c.po, .int .i64 c.st, .int .i64 c.un] 77))) := t2 B2.out (aB _ _)
  have LQ : Hid (w.heap.size ≤ w2.heap.size) := B2.out.size
  generalize w2.alloc (.cells #[.int .i64 c.pr, .int .i64 c.ia, .int .i64 c.ip, .int .i64 c.fa, .int .i64 c.fp, .int .i64 c.po, .int .i64 c.st, .int .i64 c.un] 77) = w3 at *
  generalize w2.heap.size = Q at *
  clear Z2 B2
  have N3 : Hid (Nd w0 w3 k x m n) := HN.out.below B3.out
  refine (tknext_any c.pr c.st fl ou w3).mono ?_
  rintro e w4 ⟨rfl, hw⟩
  obtain rfl := hw.symm
  clear hw
  obtain ⟨st', hst'⟩ : ∃ st', nxtS c.pr c.st fl ou = st' := ⟨_, rfl⟩
  have HIS : Hid (In6 st') := by
    show In6 st'
    rw [← hst', ← HG.out.2]
    exact nst_in (by rw [HCC.out]; exact HI.out.2)
  have HGS : Hid (x.nst j fl ou = st') := HG.out.2.trans hst'
  have HNQ : Hid (¬ Q ∈ k.all) := fun hm => by have := HN.out.lt _ hm; have := LQ.out; omega
  have HNW : Hid (¬ w.heap.size ∈ k.all) := fun hm => by have := HN.out.lt _ hm; omega
  rw [hst']
  clear hst'
  cases hg : nxtG c.pr fl
  · have HX : Hid (x.stp j fl ou = { x with T := setT x.T j st' (x.now + stay c.pr st') }) := by show _ = _; unfold No.stp; rw [HG.out.1, hg, HGS.out, HCC.out]; rfl
    clear hg
    go_upto_region 5 with fail
    go_wp2_with fail
    have HTU : Hid (∀ u, Nd w0 u k x m n → Calls Tryd.prog 56 #[.pointer (some ⟨k.nd, 0, none⟩), .int .i64 c.pr, .int .i64 st'] u fun e w' => e = .returned (.int .i64 (x.now + stay c.pr st')) ∧ Below u.heap.size u w') := fun u hu => until_nd hu c.pr st' HI.out.1 HIS.out HW.out.1 HW.out.2.1
    have HTS : Hid (∀ u un, Nd w0 u k x m n → Calls Tryd.prog 55 #[.pointer (some ⟨k.tb, 0, none⟩), .int .i64 j, .int .i64 st', .int .i64 un] u fun e w' => (∃ v, e = .returned v) ∧ Nd w0 w' k { x with T := setT x.T j st' un } (m + 1) n ∧ ChgL k.all u w') := fun u un hu => tset_nd HS.out hu HW.out.2.2 j st' un HIS.out
    generalize x.now + stay c.pr st' = un at *
    have hS : w3.drew.cell? ⟨k.nd, 6, none⟩ = some (.pointer (some ⟨k.te, 0, none⟩)) ∧ w3.drew.cell? ⟨k.te, 0, none⟩ = some (.pointer (some ⟨k.tb, 0, none⟩)) ∧ w3.drew.cell? ⟨Q, 0, none⟩ = some (.int .i64 c.pr) := ⟨N3.out.c6, N3.out.t0, Y3.out.b.c0⟩
    go_region_held3 (fun w' => w'.cell? ⟨k.nd, 6, none⟩ = some (.pointer (some ⟨k.te, 0, none⟩)) ∧ w'.cell? ⟨k.te, 0, none⟩ = some (.pointer (some ⟨k.tb, 0, none⟩)) ∧ w'.cell? ⟨Q, 0, none⟩ = some (.int .i64 c.pr))
      (first | assumption | exact ⟨tk hb5 hS.1, tk hb5 hS.2.1, tk hb5 hS.2.2⟩ | exact ⟨N6.out.c6, N6.out.t0, K6.out.keeps HNQ.out (tk hb5 hS.2.2)⟩)
      (first
        | (go_at_call 56; refine (HTU.out _ N3.out.drew).mono ?_; rintro e w5 ⟨rfl, hb5⟩)
        | (go_at_call 55; refine (HTS.out _ un (N3.out.drew.below hb5)).mono ?_; rintro e w6 ⟨⟨v6, rfl⟩, n6, k6⟩; have N6 : Hid (Nd w0 w6 k { x with T := setT x.T j st' un } (m + 1) n) := n6; have K6 : Hid (ChgL k.all w5 w6) := k6; clear n6 k6))
    have Z6 : Hid (FlZ w6 w.heap.size noC) := ((Z3.out.below (Below.refl _ _).drew).below hb5).chgL K6.out HNW.out
    have Y6 : Hid (FlZ w6 Q c) := ((Y3.out.below (Below.refl _ _).drew).below hb5).chgL K6.out HNQ.out
    have X6 : Hid (ChgL k.all w w6) := (ChgL.of (t2 (t2 B3.out (Below.refl _ _).drew) hb5)).trans K6.out
    clear hS hb5 K6
    obtain ⟨w7, hst, hz7, hc7⟩ := flz_store Z6.out c
    obtain ⟨n7, k7⟩ := HN.out.fresh N6.out rfl X6.out hc7 (Nat.le_refl _)
    have N7 : Hid (Nd w0 w7 k { x with T := setT x.T j st' un } (m + 1) n) := n7
    have K7 : Hid (ChgL k.all w w7) := k7
    have Z7 : Hid (FlZ w7 w.heap.size c) := hz7
    have y := Y6.out.b
    have y0 := y.c0
    have y1 := y.c1
    have y2 := y.c2
    have y3 := y.c3
    have y4 := y.c4
    have y5 := y.c5
    have y6 := y.c6
    have y7 := y.c7
    clear n7 k7 hz7 hc7 y
    go_wp2_with (refine wpList_store_eq rfl 77 _ _ rfl _ _ _ rfl rfl hst ?_)
    clear hst y0 y1 y2 y3 y4 y5 y6 y7
    have q := Z7.out.b
    go_wp2_with fail
    exact bodyPost_ret (v := flowV c) (by simp [results, Tryd.results33, go_sem, q.c0, q.c1, q.c2, q.c3, q.c4, q.c5, q.c6, q.c7, flowV]) rfl ⟨by rw [HCC.out], by rw [HX.out]; exact N7.out, K7.out⟩
  · have HX : Hid (x.stp j fl ou = { x with T := dropT x.T j }) := by show _ = _; unfold No.stp; rw [HG.out.1, hg]; rfl
    clear hg
    have c6 := N3.out.c6
    have t0 := N3.out.t0
    go_wp2_with fail
    refine (tdrop_nd HS.out N3.out HW.out.2.2 j).mono ?_
    rintro e w6 ⟨⟨v6, rfl⟩, n6, k6⟩
    have N6 : Hid (Nd w0 w6 k { x with T := dropT x.T j } (m + 1) n) := n6
    have Z6 : Hid (FlZ w6 w.heap.size noC) := Z3.out.chgL k6 HNW.out
    have Y6 : Hid (FlZ w6 Q c) := Y3.out.chgL k6 HNQ.out
    have X6 : Hid (ChgL k.all w w6) := (ChgL.of B3.out).trans k6
    clear n6 k6 c6 t0
    obtain ⟨w7, hst, hz7, hc7⟩ := flz_store Z6.out c
    obtain ⟨n7, k7⟩ := HN.out.fresh N6.out rfl X6.out hc7 (Nat.le_refl _)
    have N7 : Hid (Nd w0 w7 k { x with T := dropT x.T j } (m + 1) n) := n7
    have K7 : Hid (ChgL k.all w w7) := k7
    have Z7 : Hid (FlZ w7 w.heap.size c) := hz7
    have y := Y6.out.b
    have y0 := y.c0
    have y1 := y.c1
    have y2 := y.c2
    have y3 := y.c3
    have y4 := y.c4
    have y5 := y.c5
    have y6 := y.c6
    have y7 := y.c7
    clear n7 k7 hz7 hc7 y
    go_wp2_with (refine wpList_store_eq rfl 77 _ _ rfl _ _ _ rfl rfl hst ?_)
    clear hst y0 y1 y2 y3 y4 y5 y6 y7
    have q := Z7.out.b
    go_wp2_with fail
    exact bodyPost_ret (v := flowV c) (by simp [results, Tryd.results33, go_sem, q.c0, q.c1, q.c2, q.c3, q.c4, q.c5, q.c6, q.c7, flowV]) rfl ⟨by rw [HCC.out], by rw [HX.out]; exact N7.out, K7.out⟩
end Go.Proofs.YtjfhompbeengmaaDoor

namespace Go.Proofs.YtjfhompbeengmaaDoor
open Go.RowKit

/-- a packet's own block. -/
def PkZ (w : World) (Q : Nat) (p : Pk) : Prop := w.heap[Q]? = some (.cells #[.int .i64 p.pr, .int .i64 p.a1, .int .i64 p.p1, .int .i64 p.a2, .int .i64 p.p2, .int .i64 p.fl] 41 (0, 0))
theorem PkZ.lt {w : World} {Q : Nat} {p : Pk} (h : PkZ w Q p) : Q < w.heap.size := by
  rcases Nat.lt_or_ge Q w.heap.size with a | a
  · exact a
  · unfold PkZ at h; rw [Array.getElem?_eq_none a] at h; cases h
theorem PkZ.below {w w' : World} {Q : Nat} {p : Pk} (h : PkZ w Q p) (hb : Below w.heap.size w w') : PkZ w' Q p := by unfold PkZ; rw [hb.block Q h.lt]; exact h
theorem PkZ.chgL {w w' : World} {Q : Nat} {p : Pk} {l : List Nat} (h : PkZ w Q p) (hb : ChgL l w w') (hn : ¬ Q ∈ l) : PkZ w' Q p := by unfold PkZ; rw [hb.block Q h.lt hn]; exact h
theorem PkZ.c {w : World} {Q : Nat} {p : Pk} (h : PkZ w Q p) (i : Nat) : w.cell? ⟨Q, i, none⟩ = (#[.int .i64 p.pr, .int .i64 p.a1, .int .i64 p.p1, .int .i64 p.a2, .int .i64 p.p2, .int .i64 p.fl] : Array Value)[i]? := cell_of_row w _ _ _ _ _ h
theorem PkZ.fr {w : World} {Q : Nat} {p : Pk} (h : PkZ w Q p) (i : Nat) : w.frozen? ⟨Q, i, none⟩ = false := frozen_of_row w _ i _ _ h
/-- its six cells. -/
structure PkB6 (w : World) (Q : Nat) (p : Pk) : Prop where
  c0 : w.cell? ⟨Q, 0, none⟩ = some (.int .i64 p.pr)
  c1 : w.cell? ⟨Q, 1, none⟩ = some (.int .i64 p.a1)
  c2 : w.cell? ⟨Q, 2, none⟩ = some (.int .i64 p.p1)
  c3 : w.cell? ⟨Q, 3, none⟩ = some (.int .i64 p.a2)
  c4 : w.cell? ⟨Q, 4, none⟩ = some (.int .i64 p.p2)
  c5 : w.cell? ⟨Q, 5, none⟩ = some (.int .i64 p.fl)
theorem PkZ.b {w : World} {Q : Nat} {p : Pk} (h : PkZ w Q p) : PkB6 w Q p := ⟨h.c 0, h.c 1, h.c 2, h.c 3, h.c 4, h.c 5⟩
theorem PkZ.new (w : World) (p : Pk) : PkZ (w.alloc (.cells #[.int .i64 p.pr, .int .i64 p.a1, .int .i64 p.p1, .int .i64 p.a2, .int .i64 p.p2, .int .i64 p.fl] 41)) w.heap.size p := heap_alloc_new w _

/-- a flow that begins. -/
def No.addR (x : No) (p : Pk) : Nat × Nat × Tb := addT x.T x.low p.pr p.a1 p.p1 p.a2 p.p2 (bgnS p.pr p.fl) (x.now + stay p.pr (bgnS p.pr p.fl))
def No.bgE (x : No) (p : Pk) : Nat := if adm x.ru p.pr true p.p2 then (if bgnE p.pr p.fl = 0 then (x.addR p).2.1 else bgnE p.pr p.fl) else 8
def No.bg (x : No) (p : Pk) : No := if x.bgE p = 0 then { x with T := (x.addR p).2.2 } else x
def No.bgF (x : No) (p : Pk) : Ce := if x.bgE p = 0 then (x.addR p).2.2 (x.addR p).1 else noC
theorem bgn_in {pr fl : Int} : In6 (bgnS pr fl) := by unfold bgnS; repeat' split; all_goals exact In6.small (by omega) (by omega)
theorem addT_keeps {T : Tb} {low pr ia ip fa fp st un : Int} (h : (addT T low pr ia ip fa fp st un).2.1 ≠ 0) : (addT T low pr ia ip fa fp st un).2.2 = T := by
  revert h
  unfold addT
  repeat' split
  all_goals simp
theorem addT_lt {T : Tb} {low pr ia ip fa fp st un : Int} (h : (addT T low pr ia ip fa fp st un).2.1 = 0) : (addT T low pr ia ip fa fp st un).1 < 32 := by
  revert h
  unfold addT
  repeat' split
  all_goals simp
  all_goals exact fst_lt (by assumption)
theorem tadd_nd {w0 w : World} {k : Bk} {x : No} {m n : Nat} {s : Nat → Addr} (S : SeM w0 s) (h : Nd w0 w k x m n) (hm : m ≤ 1000000000) (p : Pk) (hp : In6 p.pr) :
    Calls Tryd.prog 69 #[.pointer (some ⟨k.tb, 0, none⟩), .int .i64 p.pr, .agg #[.int .i64 p.a1, .int .i64 p.p1], .agg #[.int .i64 p.a2, .int .i64 p.p2], .int .i64 (bgnS p.pr p.fl), .int .i64 (x.now + stay p.pr (bgnS p.pr p.fl))] w fun e w' => e = .returned (.tuple #[.int .i64 ((x.addR p).1 : Nat), terr s (x.addR p).2.1]) ∧ Nd w0 w' k { x with T := (x.addR p).2.2 } (m + 1) n ∧ ChgL k.all w w' := by
  have hid := h.id
  have hlow : 0 ≤ x.low ∧ x.low ≤ 100000 := by unfold No.low; omega
  refine (add_an2 k.tb x.low x.T p.pr p.a1 p.p1 p.a2 p.p2 (bgnS p.pr p.fl) (x.now + stay p.pr (bgnS p.pr p.fl)) m s w (S.below h.bl).n.s45 h.tb hlow.1 hlow.2 h.vs hm).mono ?_
  rintro e w' ⟨rfl, t, q⟩
  exact ⟨rfl, h.onTb t (h.vs.add _ _ _ _ _ _ _ _) (h.wt.add _ _ _ _ _ _ _ _ hp bgn_in) q, ChgL.one q k.m_tb⟩
theorem adm_v {s : Nat → Addr} {w : World} {l : List Rl} {p : Pk} {v : Value} {b : Bool} (h : RulesOk l) (hp : p.err = 0) (a : AdmV s w l p.pr p.a1 p.p1 p.a2 p.p2 p.fl true v b) : v = .nilIface ∧ b = adm l p.pr true p.p2 := by
  rcases a with ⟨q, _⟩ | ⟨_, ⟨e, q, _⟩, _⟩ | ⟨_, _, q1, q2⟩
  · exact absurd h q
  · unfold Pk.err at hp; rw [q] at hp; cases hp
  · exact ⟨q1, q2⟩
theorem set0_chg (w : World) (Q : Nat) : Chg Q w ((((((((w.setCell ⟨Q, 0, none⟩ (.int .i64 0)).setCell ⟨Q, 1, none⟩ (.int .i64 0)).setCell ⟨Q, 2, none⟩ (.int .i64 0)).setCell ⟨Q, 3, none⟩ (.int .i64 0)).setCell ⟨Q, 4, none⟩ (.int .i64 0)).setCell ⟨Q, 5, none⟩ (.int .i64 0)).setCell ⟨Q, 6, none⟩ (.int .i64 0)).setCell ⟨Q, 7, none⟩ (.int .i64 0)) :=
  (((((((Chg.set _ _ _ _).trans (Chg.set _ _ _ _)).trans (Chg.set _ _ _ _)).trans (Chg.set _ _ _ _)).trans (Chg.set _ _ _ _)).trans (Chg.set _ _ _ _)).trans (Chg.set _ _ _ _)).trans (Chg.set _ _ _ _)
set_option maxRecDepth 100000 in
set_option maxHeartbeats 4000000 in
theorem begin_nd {w0 w : World} {k : Bk} {x : No} {m n : Nat} {s : Nat → Addr} (S : SeM w0 s) (h : Nd w0 w k x m n) (hm : m ≤ 1000000000) (h0 : 0 ≤ x.now) (h1 : x.now ≤ 1000000000) (hr : RulesOk x.ru) (p : Pk) (hp : p.err = 0) (hpp : In6 p.pr) :
    Calls Tryd.prog 49 #[.pointer (some ⟨k.nd, 0, none⟩), p.v] w fun e w' => e = .returned (.tuple #[flowV (x.bgF p), terr s (x.bgE p)]) ∧ Nd w0 w' k (x.bg p) (m + 1) n ∧ ChgL k.all w w' := by
  have HS : Hid (SeM w0 s) := S
  have HN : Hid (Nd w0 w k x m n) := h
  have HW : Hid (0 ≤ x.now ∧ x.now ≤ 1000000000 ∧ m ≤ 1000000000) := ⟨h0, h1, hm⟩
  have HR : Hid (RulesOk x.ru) := hr
  have HP : Hid (p.err = 0) := hp
  have HPP : Hid (In6 p.pr) := hpp
  clear S h h0 h1 hm hr hp hpp
  go_enter Tryd.func49, Tryd.ntmps49
  go_upto_region 1 with fail
  go_wp2_with fail
  have B0 := aB w (.cells #[.int .i64 p.pr, .int .i64 p.a1, .int .i64 p.p1, .int .i64 p.a2, .int .i64 p.p2, .int .i64 p.fl] 41)
  have P1 : Hid (PkZ ((w.alloc (.cells #[.int .i64 p.pr, .int .i64 p.a1, .int .i64 p.p1, .int .i64 p.a2, .int .i64 p.p2, .int .i64 p.fl] 41)).alloc (.cells #[.int .i64 0, .int .i64 0, .int .i64 0, .int .i64 0, .int .i64 0, .int .i64 0, .int .i64 0, .int .i64 0] 77)) w.heap.size p) := (PkZ.new w p).below (aB _ _)
  have B1 : Hid (Below w.heap.size w ((w.alloc (.cells #[.int .i64 p.pr, .int .i64 p.a1, .int .i64 p.p1, .int .i64 p.a2, .int .i64 p.p2, .int .i64 p.fl] 41)).alloc (.cells #[.int .i64 0, .int .i64 0, .int .i64 0, .int .i64 0, .int .i64 0, .int .i64 0, .int .i64 0, .int .i64 0] 77))) := t2 B0 (aB _ _)
  have Z1 : Hid (FlZ ((w.alloc (.cells #[.int .i64 p.pr, .int .i64 p.a1, .int .i64 p.p1, .int .i64 p.a2, .int .i64 p.p2, .int .i64 p.fl] 41)).alloc (.cells #[.int .i64 0, .int .i64 0, .int .i64 0, .int .i64 0, .int .i64 0, .int .i64 0, .int .i64 0, .int .i64 0] 77)) (w.heap.size + 1) noC) := by
    have := FlZ.zero (w.alloc (.cells #[.int .i64 p.pr, .int .i64 p.a1, .int .i64 p.p1, .int .i64 p.a2, .int .i64 p.p2, .int .i64 p.fl] 41))
    show FlZ _ _ _
    simpa using this
  clear B0
  generalize (w.alloc (.cells #[.int .i64 p.pr, .int .i64 p.a1, .int .i64 p.p1, .int .i64 p.a2, .int .i64 p.p2, .int .i64 p.fl] 41)).alloc (.cells #[.int .i64 0, .int .i64 0, .int .i64 0, .int .i64 0, .int .i64 0, .int .i64 0, .int .i64 0, .int .i64 0] 77) = w1 at *
  have N1 : Hid (Nd w0 w1 k x m n) := HN.out.below B1.out
  have LW : Hid (w.heap.size ≤ w.heap.size) := Nat.le_refl _
  have LQ : Hid (w.heap.size ≤ w.heap.size + 1) := Nat.le_succ _
  generalize hPe : w.heap.size = P at P1 Z1 LW LQ ⊢
  generalize hQe : P + 1 = Q at Z1 LQ ⊢
  have S1 : Hid (∀ u, Below w1.heap.size w1 u → SeM u s) := fun u hu => (HS.out.below N1.out.bl).below hu
  have HNQ : Hid (¬ Q ∈ k.all) := fun hm => by have := HN.out.lt _ hm; omega
  have HNP : Hid (¬ P ∈ k.all) := fun hm => by have := HN.out.lt _ hm; omega
  have HAD : Hid (∀ u, Nd w0 u k x m n → Calls Tryd.prog 67 #[.slice k.rp x.ru.length k.rc, pkt p.pr p.a1 p.p1 p.a2 p.p2 p.fl, .bool true] u fun e w' => e = .returned (.tuple #[.bool (adm x.ru p.pr true p.p2), .nilIface]) ∧ Below u.heap.size u w') := fun u hu => by
    refine (admits_any k.rp x.ru k.rc p.pr p.a1 p.p1 p.a2 p.p2 p.fl true s u (HS.out.below hu.bl).n.sn hu.ru (by have := HR.out.1; omega)).mono ?_
    rintro e w' ⟨⟨v, b, rfl, a⟩, hb⟩
    obtain ⟨rfl, rfl⟩ := adm_v HR.out HP.out a
    exact ⟨rfl, hb⟩
  have hS : w1.drew.cell? ⟨k.nd, 4, none⟩ = some (.slice k.rp x.ru.length k.rc) ∧ PkB6 w1.drew P p := ⟨N1.out.c4, (P1.out.below (Below.refl _ _).drew).b⟩
  obtain ⟨g4, q0, q1, q2, q3, q4, q5⟩ := hS
  have hS : w1.drew.cell? ⟨k.nd, 4, none⟩ = some (.slice k.rp x.ru.length k.rc) ∧ w1.drew.cell? ⟨P, 0, none⟩ = some (.int .i64 p.pr) ∧ w1.drew.cell? ⟨P, 1, none⟩ = some (.int .i64 p.a1) ∧ w1.drew.cell? ⟨P, 2, none⟩ = some (.int .i64 p.p1) ∧ w1.drew.cell? ⟨P, 3, none⟩ = some (.int .i64 p.a2) ∧ w1.drew.cell? ⟨P, 4, none⟩ = some (.int .i64 p.p2) ∧ w1.drew.cell? ⟨P, 5, none⟩ = some (.int .i64 p.fl) := ⟨g4, q0, q1, q2, q3, q4, q5⟩
  clear g4 q0 q1 q2 q3 q4 q5
  obtain ⟨ad, had⟩ : ∃ ad, adm x.ru p.pr true p.p2 = ad := ⟨_, rfl⟩
  have HADE : Hid (adm x.ru p.pr true p.p2 = ad) := had
  rw [had] at HAD
  clear had
  go_region_held3 (fun w' => w'.cell? ⟨k.nd, 4, none⟩ = some (.slice k.rp x.ru.length k.rc) ∧ w'.cell? ⟨P, 0, none⟩ = some (.int .i64 p.pr) ∧ w'.cell? ⟨P, 1, none⟩ = some (.int .i64 p.a1) ∧ w'.cell? ⟨P, 2, none⟩ = some (.int .i64 p.p1) ∧ w'.cell? ⟨P, 3, none⟩ = some (.int .i64 p.a2) ∧ w'.cell? ⟨P, 4, none⟩ = some (.int .i64 p.p2) ∧ w'.cell? ⟨P, 5, none⟩ = some (.int .i64 p.fl))
    (first | assumption | exact ⟨tk hb2 hS.1, tk hb2 hS.2.1, tk hb2 hS.2.2.1, tk hb2 hS.2.2.2.1, tk hb2 hS.2.2.2.2.1, tk hb2 hS.2.2.2.2.2.1, tk hb2 hS.2.2.2.2.2.2⟩)
    (first | (go_at_call 67; refine (HAD.out _ N1.out.drew).mono ?_; rintro e w2 ⟨rfl, hb2⟩))
  have B2 : Hid (Below w.heap.size w w2) := t2 (t2 B1.out (Below.refl _ _).drew) hb2
  have N2 : Hid (Nd w0 w2 k x m n) := HN.out.below B2.out
  have P2 : Hid (PkZ w2 P p) := (P1.out.below (Below.refl _ _).drew).below hb2
  have Z2 : Hid (FlZ w2 Q noC) := (Z1.out.below (Below.refl _ _).drew).below hb2
  have S2 : Hid (SeM w2 s) := HS.out.below N2.out.bl
  clear hS hb2 B1 N1 P1 Z1 S1 HAD
  cases ad
  · have HE : Hid (x.bgE p = 8) := by show _ = _; unfold No.bgE; rw [HADE.out]; rfl
    have HB : Hid (x.bg p = x) := by show _ = _; unfold No.bg; rw [HE.out]; rfl
    have HF : Hid (x.bgF p = noC) := by show _ = _; unfold No.bgF; rw [HE.out]; rfl
    have s7 := S2.out.c7
    have hGQ : 8 ≠ Q := by have hg : 8 < w0.heap.size := tlt HS.out.c7; have := HN.out.bl.size; omega
    have z := Z2.out.b
    have z0 := z.c0
    have z1 := z.c1
    have z2 := z.c2
    have z3 := z.c3
    have z4 := z.c4
    have z5 := z.c5
    have z6 := z.c6
    have z7 := z.c7
    have zf := Z2.out.fr
    simp only [noC] at z0 z1 z2 z3 z4 z5 z6 z7
    clear z
    go_wp2_with fail
    go_region
    all_goals go_wp2_with fail
    all_goals
      refine bodyPost_ret (v := .tuple #[flowV noC, .iface 161 (.pointer (some (s 7)))]) (by simp [results, Tryd.results49, go_sem, z0, z1, z2, z3, z4, z5, z6, z7, flowV, noC]) rfl ?_
      rw [HF.out, HE.out, HB.out]
      have hcc : ∀ W, Chg Q w2 W → Nd w0 W k x m n ∧ ChgL k.all w W := fun W hc => HN.out.fresh N2.out rfl (ChgL.of B2.out) hc (by omega)
      refine ⟨rfl, (fun q => ⟨q.1.more (by omega), q.2⟩) (hcc _ ?_)⟩
      exact (set0_chg w2 Q).then (Below.refl _ _).drew
  · have HA : Hid (x.bgE p = if bgnE p.pr p.fl = 0 then (x.addR p).2.1 else bgnE p.pr p.fl) := by show _ = _; unfold No.bgE; rw [HADE.out]; rfl
    have p0 := P2.out.b.c0
    have p5 := P2.out.b.c5
    go_wp2_with fail
    clear p0 p5
    refine (begin_any p.pr p.fl s w2 ⟨S2.out.c1, S2.out.c8⟩).mono ?_
    rintro e w3 ⟨rfl, hb3⟩
    have B3 : Hid (Below w.heap.size w w3) := t2 B2.out hb3
    have N3 : Hid (Nd w0 w3 k x m n) := HN.out.below B3.out
    have P3 : Hid (PkZ w3 P p) := P2.out.below hb3
    have Z3 : Hid (FlZ w3 Q noC) := Z2.out.below hb3
    clear hb3 B2 N2 P2 Z2 S2
    by_cases hz : bgnE p.pr p.fl = 0
    · rw [if_pos hz] at HA
      rw [hz]
      clear hz
      simp only [bgnV]
      have HTU : Hid (∀ u, Nd w0 u k x m n → Calls Tryd.prog 56 #[.pointer (some ⟨k.nd, 0, none⟩), .int .i64 p.pr, .int .i64 (bgnS p.pr p.fl)] u fun e w' => e = .returned (.int .i64 (x.now + stay p.pr (bgnS p.pr p.fl))) ∧ Below u.heap.size u w') := fun u hu => until_nd hu p.pr _ HPP.out bgn_in HW.out.1 HW.out.2.1
      have HTA : Hid (∀ u, Nd w0 u k x m n → Calls Tryd.prog 69 #[.pointer (some ⟨k.tb, 0, none⟩), .int .i64 p.pr, .agg #[.int .i64 p.a1, .int .i64 p.p1], .agg #[.int .i64 p.a2, .int .i64 p.p2], .int .i64 (bgnS p.pr p.fl), .int .i64 (x.now + stay p.pr (bgnS p.pr p.fl))] u fun e w' => e = .returned (.tuple #[.int .i64 ((x.addR p).1 : Nat), terr s (x.addR p).2.1]) ∧ Nd w0 w' k { x with T := (x.addR p).2.2 } (m + 1) n ∧ ChgL k.all u w') := fun u hu => tadd_nd HS.out hu HW.out.2.2 p HPP.out
      generalize bgnS p.pr p.fl = bs at HTU HTA ⊢
      generalize x.now + stay p.pr bs = un at HTU HTA ⊢
      go_upto_region 7 with fail
      go_wp2_with fail
      obtain ⟨q0, q1, q2, q3, q4, _⟩ := (P3.out.below (Below.refl _ _).drew).b
      have hS : w3.drew.cell? ⟨k.nd, 6, none⟩ = some (.pointer (some ⟨k.te, 0, none⟩)) ∧ w3.drew.cell? ⟨k.te, 0, none⟩ = some (.pointer (some ⟨k.tb, 0, none⟩)) ∧ w3.drew.cell? ⟨P, 0, none⟩ = some (.int .i64 p.pr) ∧ w3.drew.cell? ⟨P, 1, none⟩ = some (.int .i64 p.a1) ∧ w3.drew.cell? ⟨P, 2, none⟩ = some (.int .i64 p.p1) ∧ w3.drew.cell? ⟨P, 3, none⟩ = some (.int .i64 p.a2) ∧ w3.drew.cell? ⟨P, 4, none⟩ = some (.int .i64 p.p2) := ⟨N3.out.c6, N3.out.t0, q0, q1, q2, q3, q4⟩
      clear q0 q1 q2 q3 q4
      go_region_held3 (fun w' => w'.cell? ⟨k.nd, 6, none⟩ = some (.pointer (some ⟨k.te, 0, none⟩)) ∧ w'.cell? ⟨k.te, 0, none⟩ = some (.pointer (some ⟨k.tb, 0, none⟩)) ∧ w'.cell? ⟨P, 0, none⟩ = some (.int .i64 p.pr) ∧ w'.cell? ⟨P, 1, none⟩ = some (.int .i64 p.a1) ∧ w'.cell? ⟨P, 2, none⟩ = some (.int .i64 p.p1) ∧ w'.cell? ⟨P, 3, none⟩ = some (.int .i64 p.a2) ∧ w'.cell? ⟨P, 4, none⟩ = some (.int .i64 p.p2))
        (first | assumption | exact ⟨tk hb5 hS.1, tk hb5 hS.2.1, tk hb5 hS.2.2.1, tk hb5 hS.2.2.2.1, tk hb5 hS.2.2.2.2.1, tk hb5 hS.2.2.2.2.2.1, tk hb5 hS.2.2.2.2.2.2⟩ | exact ⟨N6.out.c6, N6.out.t0, K6.out.keeps HNP.out (tk hb5 hS.2.2.1), K6.out.keeps HNP.out (tk hb5 hS.2.2.2.1), K6.out.keeps HNP.out (tk hb5 hS.2.2.2.2.1), K6.out.keeps HNP.out (tk hb5 hS.2.2.2.2.2.1), K6.out.keeps HNP.out (tk hb5 hS.2.2.2.2.2.2)⟩)
        (first
          | (go_at_call 56; refine (HTU.out _ N3.out.drew).mono ?_; rintro e w5 ⟨rfl, hb5⟩)
          | (go_at_call 69; refine (HTA.out _ (N3.out.drew.below hb5)).mono ?_; rintro e w6 ⟨rfl, n6, k6⟩; have N6 : Hid (Nd w0 w6 k { x with T := (x.addR p).2.2 } (m + 1) n) := n6; have K6 : Hid (ChgL k.all w5 w6) := k6; clear n6 k6))
      have Z6 : Hid (FlZ w6 Q noC) := ((Z3.out.below (Below.refl _ _).drew).below hb5).chgL K6.out HNQ.out
      have X6 : Hid (ChgL k.all w w6) := (ChgL.of (t2 (t2 B3.out (Below.refl _ _).drew) hb5)).trans K6.out
      clear hS hb5 K6 B3 N3 P3 Z3 HTU HTA
      by_cases hae : (x.addR p).2.1 = 0
      · have HE : Hid (x.bgE p = 0) := by show _ = _; rw [HA.out, hae]
        have HB : Hid (x.bg p = { x with T := (x.addR p).2.2 }) := by show _ = _; unfold No.bg; rw [HE.out]; rfl
        have HF : Hid (x.bgF p = (x.addR p).2.2 (x.addR p).1) := by show _ = _; unfold No.bgF; rw [HE.out]; rfl
        have HLT : Hid ((x.addR p).1 < 32) := addT_lt hae
        rw [hae]
        simp only [terr]
        go_wp2_with fail
        refine (flow_nd N6.out (x.addR p).1 HLT.out).mono ?_
        rintro e w7 ⟨rfl, hb7⟩
        have N7 : Hid (Nd w0 w7 k { x with T := (x.addR p).2.2 } (m + 1) n) := N6.out.below hb7
        have X7 : Hid (ChgL k.all w w7) := X6.out.then hb7
        have Z7 : Hid (FlZ w7 Q noC) := Z6.out.below hb7
        clear hb7 N6 X6 Z6 hae
        obtain ⟨c, hc⟩ : ∃ c, (x.addR p).2.2 (x.addR p).1 = c := ⟨_, rfl⟩
        rw [show ({ x with T := (x.addR p).2.2 } : No).T (x.addR p).1 = c from hc]
        rw [hc] at HF
        clear hc
        obtain ⟨w9, hst, hz9, hc9⟩ := flz_store Z7.out c
        obtain ⟨n9, k9⟩ := HN.out.fresh N7.out rfl X7.out hc9 (by omega)
        have N9 : Hid (Nd w0 w9 k { x with T := (x.addR p).2.2 } (m + 1) n) := n9
        have K9 : Hid (ChgL k.all w w9) := k9
        have Z9 : Hid (FlZ w9 Q c) := hz9
        clear n9 k9 hz9 hc9
        simp only [flowV]
        go_wp2_with (refine wpList_store_eq rfl 77 _ _ rfl _ _ _ rfl rfl hst ?_)
        clear hst
        have q := Z9.out.b
        go_wp2_with fail
        exact bodyPost_ret (v := .tuple #[flowV c, .nilIface]) (by simp [results, Tryd.results49, go_sem, q.c0, q.c1, q.c2, q.c3, q.c4, q.c5, q.c6, q.c7, flowV]) rfl ⟨by rw [HF.out, HE.out]; rfl, by rw [HB.out]; exact N9.out, K9.out⟩
      · have HE : Hid (x.bgE p = (x.addR p).2.1) := HA.out
        have HB : Hid (x.bg p = x) := by show _ = _; unfold No.bg; rw [if_neg (by rw [HE.out]; exact hae)]
        have HF : Hid (x.bgF p = noC) := by show _ = _; unfold No.bgF; rw [if_neg (by rw [HE.out]; exact hae)]
        have HTT : Hid ((x.addR p).2.2 = x.T) := addT_keeps hae
        obtain ⟨e1, he1⟩ : ∃ e1, (x.addR p).2.1 = e1 + 1 := ⟨(x.addR p).2.1 - 1, by omega⟩
        rw [he1] at HE ⊢
        clear hae he1
        simp only [terr]
        obtain ⟨w9, hst0, hz9, hc9⟩ := flz_store Z6.out noC
        have hst : (Instr.storeAt 77 (.pointer (some ⟨Q, 0, none⟩)) (.agg #[.int .i64 0, .int .i64 0, .int .i64 0, .int .i64 0, .int .i64 0, .int .i64 0, .int .i64 0, .int .i64 0])).run Tryd.prog w6 = .ok () w9 := hst0
        obtain ⟨n9, k9⟩ := HN.out.fresh N6.out rfl X6.out hc9 (by omega)
        have N9 : Hid (Nd w0 w9 k x (m + 1) n) := by rw [HTT.out] at n9; exact n9
        have K9 : Hid (ChgL k.all w w9) := k9
        have Z9 : Hid (FlZ w9 Q noC) := hz9
        clear n9 k9 hz9 hc9 hst0
        go_wp2_with (refine wpList_store_eq rfl 77 _ _ rfl _ _ _ rfl rfl hst ?_)
        clear hst
        have q := Z9.out.b
        go_wp2_with fail
        exact bodyPost_ret (v := .tuple #[flowV noC, .iface 161 (.pointer (some (s e1)))]) (by simp [results, Tryd.results49, go_sem, q.c0, q.c1, q.c2, q.c3, q.c4, q.c5, q.c6, q.c7, flowV]) rfl ⟨by rw [HF.out, HE.out]; rfl, by rw [HB.out]; exact N9.out, K9.out⟩
    · rw [if_neg hz] at HA
      have HB : Hid (x.bg p = x) := by show _ = _; unfold No.bg; rw [if_neg (by rw [HA.out]; exact hz)]
      have HF : Hid (x.bgF p = noC) := by show _ = _; unfold No.bgF; rw [if_neg (by rw [HA.out]; exact hz)]
      obtain ⟨e1, he1⟩ : ∃ e1, bgnE p.pr p.fl = e1 + 1 := ⟨bgnE p.pr p.fl - 1, by omega⟩
      have HE : Hid (x.bgE p = e1 + 1) := by show _ = _; rw [HA.out, he1]
      rw [he1]
      clear hz he1 HA
      simp only [bgnV]
      obtain ⟨w9, hst0, hz9, hc9⟩ := flz_store Z3.out noC
      have hst : (Instr.storeAt 77 (.pointer (some ⟨Q, 0, none⟩)) (.agg #[.int .i64 0, .int .i64 0, .int .i64 0, .int .i64 0, .int .i64 0, .int .i64 0, .int .i64 0, .int .i64 0])).run Tryd.prog w3 = .ok () w9 := hst0
      obtain ⟨n9, k9⟩ := HN.out.fresh N3.out rfl (ChgL.of B3.out) hc9 (by omega)
      have N9 : Hid (Nd w0 w9 k x m n) := n9
      have K9 : Hid (ChgL k.all w w9) := k9
      have Z9 : Hid (FlZ w9 Q noC) := hz9
      clear n9 k9 hz9 hc9 hst0
      go_wp2_with (refine wpList_store_eq rfl 77 _ _ rfl _ _ _ rfl rfl hst ?_)
      clear hst
      have q := Z9.out.b
      go_wp2_with fail
      exact bodyPost_ret (v := .tuple #[flowV noC, .iface 161 (.pointer (some (s e1)))]) (by simp [results, Tryd.results49, go_sem, q.c0, q.c1, q.c2, q.c3, q.c4, q.c5, q.c6, q.c7, flowV]) rfl ⟨by rw [HF.out, HE.out]; rfl, by rw [HB.out]; exact N9.out.more (by omega), K9.out⟩
end Go.Proofs.YtjfhompbeengmaaDoor

namespace Go.Proofs.YtjfhompbeengmaaDoor
open Go.RowKit

/-- the flow of a packet from inside. -/
def No.fnd (x : No) (p : Pk) : Option Nat := fst x.T (findQ p.pr p.a1 p.p1 p.a2 p.p2)
def No.ouF (x : No) (p : Pk) : Ce := match x.fnd p with | some j => x.T j | none => x.bgF p
def No.ouE (x : No) (p : Pk) : Nat := match x.fnd p with | some _ => 0 | none => x.bgE p
def No.ou (x : No) (p : Pk) : No := match x.fnd p with | some j => x.stp j p.fl true | none => x.bg p
set_option maxRecDepth 100000 in
set_option maxHeartbeats 4000000 in
theorem outward_nd {w0 w : World} {k : Bk} {x : No} {m n : Nat} {s : Nat → Addr} (S : SeM w0 s) (h : Nd w0 w k x m n) (hm : m ≤ 1000000000) (h0 : 0 ≤ x.now) (h1 : x.now ≤ 1000000000) (hr : RulesOk x.ru) (p : Pk) (hp : p.err = 0) (hpp : In6 p.pr) :
    Calls Tryd.prog 31 #[.pointer (some ⟨k.nd, 0, none⟩), p.v] w fun e w' => e = .returned (.tuple #[flowV (x.ouF p), terr s (x.ouE p)]) ∧ Nd w0 w' k (x.ou p) (m + 1) n ∧ ChgL k.all w w' := by
  have HS : Hid (SeM w0 s) := S
  have HN : Hid (Nd w0 w k x m n) := h
  have HW : Hid (0 ≤ x.now ∧ x.now ≤ 1000000000 ∧ m ≤ 1000000000) := ⟨h0, h1, hm⟩
  have HR : Hid (RulesOk x.ru) := hr
  have HP : Hid (p.err = 0) := hp
  have HPP : Hid (In6 p.pr) := hpp
  clear S h h0 h1 hm hr hp hpp
  go_enter Tryd.func31, Tryd.ntmps31
  go_upto_region 1 with fail
  go_wp2_with fail
  have B0 := aB w (.cells #[.int .i64 p.pr, .int .i64 p.a1, .int .i64 p.p1, .int .i64 p.a2, .int .i64 p.p2, .int .i64 p.fl] 41)
  have P1 : Hid (PkZ ((w.alloc (.cells #[.int .i64 p.pr, .int .i64 p.a1, .int .i64 p.p1, .int .i64 p.a2, .int .i64 p.p2, .int .i64 p.fl] 41)).alloc (.cells #[.int .i64 0, .int .i64 0, .int .i64 0, .int .i64 0, .int .i64 0, .int .i64 0, .int .i64 0, .int .i64 0] 77)) w.heap.size p) := (PkZ.new w p).below (aB _ _)
  have B1 : Hid (Below w.heap.size w ((w.alloc (.cells #[.int .i64 p.pr, .int .i64 p.a1, .int .i64 p.p1, .int .i64 p.a2, .int .i64 p.p2, .int .i64 p.fl] 41)).alloc (.cells #[.int .i64 0, .int .i64 0, .int .i64 0, .int .i64 0, .int .i64 0, .int .i64 0, .int .i64 0, .int .i64 0] 77))) := t2 B0 (aB _ _)
  have Z1 : Hid (FlZ ((w.alloc (.cells #[.int .i64 p.pr, .int .i64 p.a1, .int .i64 p.p1, .int .i64 p.a2, .int .i64 p.p2, .int .i64 p.fl] 41)).alloc (.cells #[.int .i64 0, .int .i64 0, .int .i64 0, .int .i64 0, .int .i64 0, .int .i64 0, .int .i64 0, .int .i64 0] 77)) (w.heap.size + 1) noC) := by
    have := FlZ.zero (w.alloc (.cells #[.int .i64 p.pr, .int .i64 p.a1, .int .i64 p.p1, .int .i64 p.a2, .int .i64 p.p2, .int .i64 p.fl] 41))
    show FlZ _ _ _
    simpa using this
  clear B0
  generalize (w.alloc (.cells #[.int .i64 p.pr, .int .i64 p.a1, .int .i64 p.p1, .int .i64 p.a2, .int .i64 p.p2, .int .i64 p.fl] 41)).alloc (.cells #[.int .i64 0, .int .i64 0, .int .i64 0, .int .i64 0, .int .i64 0, .int .i64 0, .int .i64 0, .int .i64 0] 77) = w1 at *
  have N1 : Hid (Nd w0 w1 k x m n) := HN.out.below B1.out
  have LW : Hid (w.heap.size ≤ w.heap.size) := Nat.le_refl _
  have LQ : Hid (w.heap.size ≤ w.heap.size + 1) := Nat.le_succ _
  generalize hPe : w.heap.size = P at P1 Z1 LW LQ ⊢
  generalize hQe : P + 1 = Q at Z1 LQ ⊢
  obtain ⟨o, ho⟩ : ∃ o, x.fnd p = o := ⟨_, rfl⟩
  have HO : Hid (x.fnd p = o) := ho
  have HFD : Hid (∀ u, Nd w0 u k x m n → Calls Tryd.prog 48 #[.pointer (some ⟨k.tb, 0, none⟩), .int .i64 p.pr, .agg #[.int .i64 p.a1, .int .i64 p.p1], .agg #[.int .i64 p.a2, .int .i64 p.p2]] u fun e w' => e = .returned (.tuple #[.int .i64 ((o.getD 0 : Nat) : Int), .bool o.isSome]) ∧ Below u.heap.size u w') := fun u hu => by
    have := find_any k.tb x.low x.T p.pr p.a1 p.p1 p.a2 p.p2 u hu.tb
    rw [show fst x.T (findQ p.pr p.a1 p.p1 p.a2 p.p2) = o from ho] at this
    exact this
  clear ho
  obtain ⟨q0, q1, q2, q3, q4, _⟩ := (P1.out.below (Below.refl _ _).drew).b
  have hS : w1.drew.cell? ⟨k.nd, 6, none⟩ = some (.pointer (some ⟨k.te, 0, none⟩)) ∧ w1.drew.cell? ⟨k.te, 0, none⟩ = some (.pointer (some ⟨k.tb, 0, none⟩)) ∧ w1.drew.cell? ⟨P, 0, none⟩ = some (.int .i64 p.pr) ∧ w1.drew.cell? ⟨P, 1, none⟩ = some (.int .i64 p.a1) ∧ w1.drew.cell? ⟨P, 2, none⟩ = some (.int .i64 p.p1) ∧ w1.drew.cell? ⟨P, 3, none⟩ = some (.int .i64 p.a2) ∧ w1.drew.cell? ⟨P, 4, none⟩ = some (.int .i64 p.p2) := ⟨N1.out.c6, N1.out.t0, q0, q1, q2, q3, q4⟩
  clear q0 q1 q2 q3 q4
  go_region_held3 (fun w' => w'.cell? ⟨k.nd, 6, none⟩ = some (.pointer (some ⟨k.te, 0, none⟩)) ∧ w'.cell? ⟨k.te, 0, none⟩ = some (.pointer (some ⟨k.tb, 0, none⟩)) ∧ w'.cell? ⟨P, 0, none⟩ = some (.int .i64 p.pr) ∧ w'.cell? ⟨P, 1, none⟩ = some (.int .i64 p.a1) ∧ w'.cell? ⟨P, 2, none⟩ = some (.int .i64 p.p1) ∧ w'.cell? ⟨P, 3, none⟩ = some (.int .i64 p.a2) ∧ w'.cell? ⟨P, 4, none⟩ = some (.int .i64 p.p2))
    (first | assumption | exact ⟨tk hb2 hS.1, tk hb2 hS.2.1, tk hb2 hS.2.2.1, tk hb2 hS.2.2.2.1, tk hb2 hS.2.2.2.2.1, tk hb2 hS.2.2.2.2.2.1, tk hb2 hS.2.2.2.2.2.2⟩)
    (first | (go_at_call 48; refine (HFD.out _ N1.out.drew).mono ?_; rintro e w2 ⟨rfl, hb2⟩))
  have B2 : Hid (Below w.heap.size w w2) := t2 (t2 B1.out (Below.refl _ _).drew) hb2
  have N2 : Hid (Nd w0 w2 k x m n) := HN.out.below B2.out
  have P2 : Hid (PkZ w2 P p) := (P1.out.below (Below.refl _ _).drew).below hb2
  have Z2 : Hid (FlZ w2 Q noC) := (Z1.out.below (Below.refl _ _).drew).below hb2
  have HNQ : Hid (¬ Q ∈ k.all) := fun hm => by have := HN.out.lt _ hm; omega
  clear hS hb2 B1 N1 P1 Z1 HFD
  obtain ⟨r0, r1, r2, r3, r4, r5⟩ := P2.out.b
  cases o with
  | some j =>
    have HLT : Hid (j < 32) := fst_lt HO.out
    have HF : Hid (x.ouF p = x.T j ∧ x.ouE p = 0 ∧ x.ou p = x.stp j p.fl true) := by unfold No.ouF No.ouE No.ou; rw [HO.out]; exact ⟨rfl, rfl, rfl⟩
    simp only [Option.isSome_some, Option.getD_some]
    go_wp2_with fail
    clear r0 r1 r2 r3 r4 r5
    refine (step_nd HS.out N2.out HW.out.2.2 HW.out.1 HW.out.2.1 j HLT.out p.fl true).mono ?_
    rintro e w7 ⟨rfl, n7, k7⟩
    have N7 : Hid (Nd w0 w7 k (x.stp j p.fl true) (m + 1) n) := n7
    have X7 : Hid (ChgL k.all w w7) := (ChgL.of B2.out).trans k7
    have Z7 : Hid (FlZ w7 Q noC) := Z2.out.chgL k7 HNQ.out
    have HRU : Hid ((x.stp j p.fl true).ru = x.ru) := by show _ = _; unfold No.stp; split <;> rfl
    clear n7 k7
    obtain ⟨c, hc⟩ : ∃ c, x.T j = c := ⟨_, rfl⟩
    rw [hc]
    rw [hc] at HF
    clear hc
    obtain ⟨w9, hst, hz9, hc9⟩ := flz_store Z7.out c
    obtain ⟨n9, k9⟩ := HN.out.fresh N7.out HRU.out X7.out hc9 (by omega)
    have N9 : Hid (Nd w0 w9 k (x.stp j p.fl true) (m + 1) n) := n9
    have K9 : Hid (ChgL k.all w w9) := k9
    have Z9 : Hid (FlZ w9 Q c) := hz9
    clear n9 k9 hz9 hc9
    simp only [flowV]
    go_wp2_with (refine wpList_store_eq rfl 77 _ _ rfl _ _ _ rfl rfl hst ?_)
    clear hst
    have q := Z9.out.b
    go_wp2_with fail
    exact bodyPost_ret (v := .tuple #[flowV c, .nilIface]) (by simp [results, Tryd.results31, go_sem, q.c0, q.c1, q.c2, q.c3, q.c4, q.c5, q.c6, q.c7, flowV]) rfl ⟨by rw [HF.out.1, HF.out.2.1]; rfl, by rw [HF.out.2.2]; exact N9.out, K9.out⟩
  | none =>
    have HF : Hid (x.ouF p = x.bgF p ∧ x.ouE p = x.bgE p ∧ x.ou p = x.bg p) := by unfold No.ouF No.ouE No.ou; rw [HO.out]; exact ⟨rfl, rfl, rfl⟩
    simp only [Option.isSome_none, Option.getD_none]
    go_wp2_with fail
    clear r0 r1 r2 r3 r4 r5
    refine (begin_nd HS.out N2.out HW.out.2.2 HW.out.1 HW.out.2.1 HR.out p HP.out HPP.out).mono ?_
    rintro e w7 ⟨rfl, n7, k7⟩
    have N7 : Hid (Nd w0 w7 k (x.bg p) (m + 1) n) := n7
    have X7 : Hid (ChgL k.all w w7) := (ChgL.of B2.out).trans k7
    have Z7 : Hid (FlZ w7 Q noC) := Z2.out.chgL k7 HNQ.out
    have HRU : Hid ((x.bg p).ru = x.ru) := by show _ = _; unfold No.bg; split <;> rfl
    clear n7 k7
    obtain ⟨c, hc⟩ : ∃ c, x.bgF p = c := ⟨_, rfl⟩
    obtain ⟨ev, hev⟩ : ∃ ev, terr s (x.bgE p) = ev := ⟨_, rfl⟩
    have HEV : Hid (terr s (x.ouE p) = ev) := by show _ = _; rw [HF.out.2.1]; exact hev
    rw [hc, hev]
    rw [hc] at HF
    clear hc hev
    obtain ⟨w9, hst, hz9, hc9⟩ := flz_store Z7.out c
    obtain ⟨n9, k9⟩ := HN.out.fresh N7.out HRU.out X7.out hc9 (by omega)
    have N9 : Hid (Nd w0 w9 k (x.bg p) (m + 1) n) := n9
    have K9 : Hid (ChgL k.all w w9) := k9
    have Z9 : Hid (FlZ w9 Q c) := hz9
    clear n9 k9 hz9 hc9
    simp only [flowV]
    go_wp2_with (refine wpList_store_eq rfl 77 _ _ rfl _ _ _ rfl rfl hst ?_)
    clear hst
    have q := Z9.out.b
    go_wp2_with fail
    exact bodyPost_ret (v := .tuple #[flowV c, ev]) (by simp [results, Tryd.results31, go_sem, q.c0, q.c1, q.c2, q.c3, q.c4, q.c5, q.c6, q.c7, flowV]) rfl ⟨by rw [HF.out.1, HEV.out], by rw [HF.out.2.2]; exact N9.out, K9.out⟩
end Go.Proofs.YtjfhompbeengmaaDoor

namespace Go.Proofs.YtjfhompbeengmaaDoor
open Go.RowKit

def noP : Pk := ⟨0, 0, 0, 0, 0, 0⟩
theorem PkZ.zero (w : World) : PkZ (w.alloc (.cells #[.int .i64 0, .int .i64 0, .int .i64 0, .int .i64 0, .int .i64 0, .int .i64 0] 41)) w.heap.size noP := heap_alloc_new w _
theorem pkz_store {w : World} {Q : Nat} {c : Pk} (h : PkZ w Q c) (d : Pk) :
    ∃ w', (Instr.storeAt 41 (.pointer (some ⟨Q, 0, none⟩)) (.agg #[.int .i64 d.pr, .int .i64 d.a1, .int .i64 d.p1, .int .i64 d.a2, .int .i64 d.p2, .int .i64 d.fl])).run Tryd.prog w = .ok () w' ∧ PkZ w' Q d ∧ Chg Q w w' := by
  have hs : (sizeOf 41).run Tryd.prog w = .ok 6 w := by kernel_rfl
  have hst := run_storeCells_at Tryd.prog Q 0 41 [.int .i64 d.pr, .int .i64 d.a1, .int .i64 d.p1, .int .i64 d.a2, .int .i64 d.p2, .int .i64 d.fl] 0 _ w h (by simp) (fun u hu => by
    simp only [List.mem_cons, List.not_mem_nil, or_false] at hu
    rcases hu with rfl | rfl | rfl | rfl | rfl | rfl <;> rfl)
  refine ⟨w.setRow Q #[.int .i64 d.pr, .int .i64 d.a1, .int .i64 d.p1, .int .i64 d.a2, .int .i64 d.p2, .int .i64 d.fl], ?_, setRow_heap w Q _ _ _ _ h, chg_row _ _ _⟩
  simp only [Instr.storeAt, Instr.sureAddr, Sem.run_bind, Sem.run_pure, Result.andThen_ok, storeVar, hs, Value.cells]
  simp at hst ⊢
  exact hst
theorem set0_chg6 (w : World) (Q : Nat) : Chg Q w ((((((w.setCell ⟨Q, 0, none⟩ (.int .i64 0)).setCell ⟨Q, 1, none⟩ (.int .i64 0)).setCell ⟨Q, 2, none⟩ (.int .i64 0)).setCell ⟨Q, 3, none⟩ (.int .i64 0)).setCell ⟨Q, 4, none⟩ (.int .i64 0)).setCell ⟨Q, 5, none⟩ (.int .i64 0)) :=
  (((((Chg.set _ _ _ _).trans (Chg.set _ _ _ _)).trans (Chg.set _ _ _ _)).trans (Chg.set _ _ _ _)).trans (Chg.set _ _ _ _)).trans (Chg.set _ _ _ _)
theorem set_chg2 (w : World) (P a b : Nat) (u v : Value) : Chg P w ((w.setCell ⟨P, a, none⟩ u).setCell ⟨P, b, none⟩ v) := (Chg.set _ _ _ _).trans (Chg.set _ _ _ _)
/-- what goes on of a packet from inside. -/
def No.inE (x : No) (p : Pk) : Nat := if x.chk p = 0 then x.ouE p else x.chk p
def No.inP (x : No) (p : Pk) : Pk := if x.inE p = 0 then ⟨p.pr, 1, (x.ouF p).po, p.a2, p.p2, p.fl⟩ else noP
def No.ins (x : No) (p : Pk) : No := if x.chk p = 0 then x.ou p else x
theorem chk_err {x : No} {p : Pk} (h : x.chk p = 0) : p.err = 0 := by
  unfold No.chk at h
  by_cases e : p.err = 0
  · exact e
  · rw [if_neg e] at h; exact absurd h e
theorem ou_ru (x : No) (p : Pk) : (x.ou p).ru = x.ru := by
  unfold No.ou
  split
  · unfold No.stp; split <;> rfl
  · unfold No.bg; split <;> rfl
set_option maxRecDepth 100000 in
set_option maxHeartbeats 4000000 in
theorem inside_nd {w0 w : World} {k : Bk} {x : No} {m n : Nat} {s : Nat → Addr} (S : SeM w0 s) (h : Nd w0 w k x m n) (hm : m ≤ 1000000000) (h0 : 0 ≤ x.now) (h1 : x.now ≤ 1000000000) (hr : RulesOk x.ru) (p : Pk) (hpp : In6 p.pr) :
    Calls Tryd.prog 9 #[.pointer (some ⟨k.nd, 0, none⟩), p.v] w fun e w' => e = .returned (.tuple #[(x.inP p).v, terr s (x.inE p)]) ∧ Nd w0 w' k (x.ins p) (m + 1) n ∧ ChgL k.all w w' := by
  have HR : Hid (RulesOk x.ru) := hr
  clear hr
  have HS : Hid (SeM w0 s) := S
  have HN : Hid (Nd w0 w k x m n) := h
  have HW : Hid (0 ≤ x.now ∧ x.now ≤ 1000000000 ∧ m ≤ 1000000000) := ⟨h0, h1, hm⟩
  have HPP : Hid (In6 p.pr) := hpp
  clear S h h0 h1 hm hpp
  go_enter Tryd.func9, Tryd.ntmps9
  go_wp2_with fail
  have B0 := aB w (.cells #[.int .i64 p.pr, .int .i64 p.a1, .int .i64 p.p1, .int .i64 p.a2, .int .i64 p.p2, .int .i64 p.fl] 41)
  have P1 : Hid (PkZ ((w.alloc (.cells #[.int .i64 p.pr, .int .i64 p.a1, .int .i64 p.p1, .int .i64 p.a2, .int .i64 p.p2, .int .i64 p.fl] 41)).alloc (.cells #[.int .i64 0, .int .i64 0, .int .i64 0, .int .i64 0, .int .i64 0, .int .i64 0] 41)) w.heap.size p) := (PkZ.new w p).below (aB _ _)
  have B1 : Hid (Below w.heap.size w ((w.alloc (.cells #[.int .i64 p.pr, .int .i64 p.a1, .int .i64 p.p1, .int .i64 p.a2, .int .i64 p.p2, .int .i64 p.fl] 41)).alloc (.cells #[.int .i64 0, .int .i64 0, .int .i64 0, .int .i64 0, .int .i64 0, .int .i64 0] 41))) := t2 B0 (aB _ _)
  have Z1 : Hid (PkZ ((w.alloc (.cells #[.int .i64 p.pr, .int .i64 p.a1, .int .i64 p.p1, .int .i64 p.a2, .int .i64 p.p2, .int .i64 p.fl] 41)).alloc (.cells #[.int .i64 0, .int .i64 0, .int .i64 0, .int .i64 0, .int .i64 0, .int .i64 0] 41)) (w.heap.size + 1) noP) := by
    have := PkZ.zero (w.alloc (.cells #[.int .i64 p.pr, .int .i64 p.a1, .int .i64 p.p1, .int .i64 p.a2, .int .i64 p.p2, .int .i64 p.fl] 41))
    show PkZ _ _ _
    simpa using this
  clear B0
  generalize (w.alloc (.cells #[.int .i64 p.pr, .int .i64 p.a1, .int .i64 p.p1, .int .i64 p.a2, .int .i64 p.p2, .int .i64 p.fl] 41)).alloc (.cells #[.int .i64 0, .int .i64 0, .int .i64 0, .int .i64 0, .int .i64 0, .int .i64 0] 41) = w1 at *
  have N1 : Hid (Nd w0 w1 k x m n) := HN.out.below B1.out
  have LW : Hid (w.heap.size ≤ w.heap.size) := Nat.le_refl _
  have LQ : Hid (w.heap.size ≤ w.heap.size + 1) := Nat.le_succ _
  generalize hPe : w.heap.size = P at P1 Z1 LW LQ ⊢
  generalize hQe : P + 1 = Q at Z1 LQ ⊢
  have HNQ : Hid (¬ Q ∈ k.all) := fun hm => by have := HN.out.lt _ hm; omega
  have HNP : Hid (¬ P ∈ k.all) := fun hm => by have := HN.out.lt _ hm; omega
  refine (check_nd HS.out N1.out p).mono ?_
  rintro e w2 ⟨rfl, hb2⟩
  have B2 : Hid (Below w.heap.size w w2) := t2 B1.out hb2
  have N2 : Hid (Nd w0 w2 k x m n) := HN.out.below B2.out
  have P2 : Hid (PkZ w2 P p) := P1.out.below hb2
  have Z2 : Hid (PkZ w2 Q noP) := Z1.out.below hb2
  have S2 : Hid (SeM w2 s) := HS.out.below N2.out.bl
  clear hb2 B1 N1 P1 Z1
  by_cases hc : x.chk p = 0
  · have HP : Hid (p.err = 0) := chk_err hc
    have HE : Hid (x.inE p = x.ouE p) := by show _ = _; unfold No.inE; rw [if_pos hc]
    have HX : Hid (x.ins p = x.ou p) := by show _ = _; unfold No.ins; rw [if_pos hc]
    have HRU : Hid ((x.ou p).ru = x.ru) := ou_ru x p
    obtain ⟨r0, r1, r2, r3, r4, r5⟩ := P2.out.b
    rw [hc]
    clear hc
    simp only [terr]
    go_wp2_with fail
    clear r0 r1 r2 r3 r4 r5
    refine (outward_nd HS.out N2.out HW.out.2.2 HW.out.1 HW.out.2.1 HR.out p HP.out HPP.out).mono ?_
    rintro e w3 ⟨rfl, n3, k3⟩
    obtain ⟨c, hcc⟩ : ∃ c, x.ouF p = c := ⟨_, rfl⟩
    have HC : Hid (x.ouF p = c) := hcc
    rw [hcc]
    clear hcc
    have n4 := n3.below (aB w3 (.cells #[.int .i64 c.pr, .int .i64 c.ia, .int .i64 c.ip, .int .i64 c.fa, .int .i64 c.fp, .int .i64 c.po, .int .i64 c.st, .int .i64 c.un] 77))
    have N4 : Hid (Nd w0 (w3.alloc (.cells #[.int .i64 c.pr, .int .i64 c.ia, .int .i64 c.ip, .int .i64 c.fa, .int .i64 c.fp, .int .i64 c.po, .int .i64 c.st, .int .i64 c.un] 77)) k (x.ou p) (m + 1) n) := n4
    have X4 : Hid (ChgL k.all w (w3.alloc (.cells #[.int .i64 c.pr, .int .i64 c.ia, .int .i64 c.ip, .int .i64 c.fa, .int .i64 c.fp, .int .i64 c.po, .int .i64 c.st, .int .i64 c.un] 77))) := ((ChgL.of B2.out).trans k3).then (aB _ _)
    have P4 : Hid (PkZ (w3.alloc (.cells #[.int .i64 c.pr, .int .i64 c.ia, .int .i64 c.ip, .int .i64 c.fa, .int .i64 c.fp, .int .i64 c.po, .int .i64 c.st, .int .i64 c.un] 77)) P p) := (P2.out.chgL k3 HNP.out).below (aB _ _)
    have Z4 : Hid (PkZ (w3.alloc (.cells #[.int .i64 c.pr, .int .i64 c.ia, .int .i64 c.ip, .int .i64 c.fa, .int .i64 c.fp, .int .i64 c.po, .int .i64 c.st, .int .i64 c.un] 77)) Q noP) := (Z2.out.chgL k3 HNQ.out).below (aB _ _)
    have F4 : Hid (FlZ (w3.alloc (.cells #[.int .i64 c.pr, .int .i64 c.ia, .int .i64 c.ip, .int .i64 c.fa, .int .i64 c.fp, .int .i64 c.po, .int .i64 c.st, .int .i64 c.un] 77)) w3.heap.size c) := FlZ.new w3 c
    simp only [flowV]
    clear n3 n4 k3
    by_cases he : x.ouE p = 0
    · have HIE : Hid (x.inE p = 0) := by show _ = _; rw [HE.out, he]
      have HIP : Hid (x.inP p = ⟨p.pr, 1, c.po, p.a2, p.p2, p.fl⟩) := by show _ = _; unfold No.inP; rw [if_pos HIE.out, HC.out]
      rw [he]
      clear he
      simp only [terr]
      go_upto_region 7 with fail
      generalize w3.alloc (.cells #[.int .i64 c.pr, .int .i64 c.ia, .int .i64 c.ip, .int .i64 c.fa, .int .i64 c.fp, .int .i64 c.po, .int .i64 c.st, .int .i64 c.un] 77) = w4 at *
      generalize w3.heap.size = G at *
      have g5 := F4.out.b.c5
      obtain ⟨r0, r1, r2, r3, r4, r5⟩ := P4.out.b
      have pf := P4.out.fr
      have hcg := set_chg2 w4 P 1 2 (.int .i64 1) (.int .i64 c.po)
      have Z5 : Hid (PkZ ((w4.setCell ⟨P, 1, none⟩ (.int .i64 1)).setCell ⟨P, 2, none⟩ (.int .i64 c.po)) Q noP) := Z4.out.chgL (ChgL.one (l := [P]) hcg (by simp)) (by simp; omega)
      obtain ⟨n5, k5⟩ := HN.out.fresh N4.out HRU.out X4.out hcg (by omega)
      obtain ⟨w9, hst, hz9, hc9⟩ := pkz_store Z5.out ⟨p.pr, 1, c.po, p.a2, p.p2, p.fl⟩
      simp only at hst
      obtain ⟨n9, k9⟩ := HN.out.fresh n5 HRU.out k5 hc9 (by omega)
      have N9 : Hid (Nd w0 w9 k (x.ou p) (m + 1) n) := n9
      have K9 : Hid (ChgL k.all w w9) := k9
      have Z9 : Hid (PkZ w9 Q ⟨p.pr, 1, c.po, p.a2, p.p2, p.fl⟩) := hz9
      clear n9 k9 hz9 hc9 n5 k5 hcg
      go_wp2_with (refine wpList_store_eq rfl 41 _ _ rfl _ _ _ rfl rfl hst ?_)
      clear hst g5 r0 r1 r2 r3 r4 r5 pf
      have q := Z9.out.b
      go_wp2_with fail
      exact bodyPost_ret (v := .tuple #[Pk.v ⟨p.pr, 1, c.po, p.a2, p.p2, p.fl⟩, .nilIface]) (by simp [results, Tryd.results9, go_sem, q.c0, q.c1, q.c2, q.c3, q.c4, q.c5, Pk.v]) rfl ⟨by rw [HIP.out, HIE.out]; rfl, by rw [HX.out]; exact N9.out, K9.out⟩
    · obtain ⟨e1, he1⟩ : ∃ e1, x.ouE p = e1 + 1 := ⟨x.ouE p - 1, by omega⟩
      have HIE : Hid (x.inE p = e1 + 1) := by show _ = _; rw [HE.out, he1]
      have HIP : Hid (x.inP p = noP) := by show _ = _; unfold No.inP; rw [if_neg (by rw [HIE.out]; omega)]
      rw [he1]
      clear he he1
      simp only [terr]
      generalize hw4 : w3.alloc (.cells #[.int .i64 c.pr, .int .i64 c.ia, .int .i64 c.ip, .int .i64 c.fa, .int .i64 c.fp, .int .i64 c.po, .int .i64 c.st, .int .i64 c.un] 77) = w4 at N4 X4 P4 Z4 F4
      obtain ⟨w9, hst0, hz9, hc9⟩ := pkz_store Z4.out noP
      have hst : (Instr.storeAt 41 (.pointer (some ⟨Q, 0, none⟩)) (.agg #[.int .i64 0, .int .i64 0, .int .i64 0, .int .i64 0, .int .i64 0, .int .i64 0])).run Tryd.prog w4 = .ok () w9 := hst0
      obtain ⟨n9, k9⟩ := HN.out.fresh N4.out HRU.out X4.out hc9 (by omega)
      have N9 : Hid (Nd w0 w9 k (x.ou p) (m + 1) n) := n9
      have K9 : Hid (ChgL k.all w w9) := k9
      have Z9 : Hid (PkZ w9 Q noP) := hz9
      clear n9 k9 hz9 hc9 hst0
      subst hw4
      go_wp2_with (refine wpList_store_eq rfl 41 _ _ rfl _ _ _ rfl rfl hst ?_)
      clear hst
      have q := Z9.out.b
      go_wp2_with fail
      exact bodyPost_ret (v := .tuple #[Pk.v noP, .iface 161 (.pointer (some (s e1)))]) (by simp [results, Tryd.results9, go_sem, q.c0, q.c1, q.c2, q.c3, q.c4, q.c5, Pk.v]) rfl ⟨by rw [HIP.out, HIE.out]; rfl, by rw [HX.out]; exact N9.out, K9.out⟩
  · obtain ⟨e1, he1⟩ : ∃ e1, x.chk p = e1 + 1 := ⟨x.chk p - 1, by omega⟩
    have HIE : Hid (x.inE p = e1 + 1) := by show _ = _; unfold No.inE; rw [if_neg hc, he1]
    have HIP : Hid (x.inP p = noP) := by show _ = _; unfold No.inP; rw [if_neg (by rw [HIE.out]; omega)]
    have HX : Hid (x.ins p = x) := by show _ = _; unfold No.ins; rw [if_neg hc]
    have HRU : Hid (x.ru = x.ru) := rfl
    rw [he1]
    clear hc he1
    simp only [terr]
    obtain ⟨w9, hst0, hz9, hc9⟩ := pkz_store Z2.out noP
    have hst : (Instr.storeAt 41 (.pointer (some ⟨Q, 0, none⟩)) (.agg #[.int .i64 0, .int .i64 0, .int .i64 0, .int .i64 0, .int .i64 0, .int .i64 0])).run Tryd.prog w2 = .ok () w9 := hst0
    obtain ⟨n9, k9⟩ := HN.out.fresh N2.out HRU.out (ChgL.of B2.out) hc9 (by omega)
    have N9 : Hid (Nd w0 w9 k x m n) := n9
    have K9 : Hid (ChgL k.all w w9) := k9
    have Z9 : Hid (PkZ w9 Q noP) := hz9
    clear n9 k9 hz9 hc9 hst0
    go_wp2_with (refine wpList_store_eq rfl 41 _ _ rfl _ _ _ rfl rfl hst ?_)
    clear hst
    have q := Z9.out.b
    go_wp2_with fail
    exact bodyPost_ret (v := .tuple #[Pk.v noP, .iface 161 (.pointer (some (s e1)))]) (by simp [results, Tryd.results9, go_sem, q.c0, q.c1, q.c2, q.c3, q.c4, q.c5, Pk.v]) rfl ⟨by rw [HIP.out, HIE.out]; rfl, by rw [HX.out]; exact N9.out.more (by omega), K9.out⟩
end Go.Proofs.YtjfhompbeengmaaDoor

namespace Go.Proofs.YtjfhompbeengmaaDoor
open Go.RowKit

/-- a packet from outside: its slot; its error; what goes on; the node behind it. -/
def No.bck (x : No) (p : Pk) : Option Nat := fst x.T (backQ p.pr p.p2 p.a1 p.p1)
def No.otE (x : No) (p : Pk) : Nat := if x.chk p = 0 then (if p.a2 = 1 then (match x.bck p with | some _ => 0 | none => 4) else 3) else x.chk p
def No.otJ (x : No) (p : Pk) : Option Nat := if x.chk p = 0 then (if p.a2 = 1 then x.bck p else none) else none
def No.otP (x : No) (p : Pk) : Pk := match x.otJ p with | some j => ⟨p.pr, p.a1, p.p1, (x.T j).ia, (x.T j).ip, p.fl⟩ | none => noP
def No.ots (x : No) (p : Pk) : No := match x.otJ p with | some j => x.stp j p.fl false | none => x
theorem stp_ru (x : No) (j : Nat) (fl : Int) (ou : Bool) : (x.stp j fl ou).ru = x.ru := by unfold No.stp; split <;> rfl
set_option maxRecDepth 100000 in
set_option maxHeartbeats 4000000 in
theorem outside_nd {w0 w : World} {k : Bk} {x : No} {m n : Nat} {s : Nat → Addr} (S : SeM w0 s) (h : Nd w0 w k x m n) (hm : m ≤ 1000000000) (h0 : 0 ≤ x.now) (h1 : x.now ≤ 1000000000) (p : Pk) :
    Calls Tryd.prog 10 #[.pointer (some ⟨k.nd, 0, none⟩), p.v] w fun e w' => e = .returned (.tuple #[(x.otP p).v, terr s (x.otE p)]) ∧ Nd w0 w' k (x.ots p) (m + 1) n ∧ ChgL k.all w w' := by
  have HS : Hid (SeM w0 s) := S
  have HN : Hid (Nd w0 w k x m n) := h
  have HW : Hid (0 ≤ x.now ∧ x.now ≤ 1000000000 ∧ m ≤ 1000000000) := ⟨h0, h1, hm⟩
  clear S h h0 h1 hm
  go_enter Tryd.func10, Tryd.ntmps10
  go_wp2_with fail
  have B0 := aB w (.cells #[.int .i64 p.pr, .int .i64 p.a1, .int .i64 p.p1, .int .i64 p.a2, .int .i64 p.p2, .int .i64 p.fl] 41)
  have P1 : Hid (PkZ ((w.alloc (.cells #[.int .i64 p.pr, .int .i64 p.a1, .int .i64 p.p1, .int .i64 p.a2, .int .i64 p.p2, .int .i64 p.fl] 41)).alloc (.cells #[.int .i64 0, .int .i64 0, .int .i64 0, .int .i64 0, .int .i64 0, .int .i64 0] 41)) w.heap.size p) := (PkZ.new w p).below (aB _ _)
  have B1 : Hid (Below w.heap.size w ((w.alloc (.cells #[.int .i64 p.pr, .int .i64 p.a1, .int .i64 p.p1, .int .i64 p.a2, .int .i64 p.p2, .int .i64 p.fl] 41)).alloc (.cells #[.int .i64 0, .int .i64 0, .int .i64 0, .int .i64 0, .int .i64 0, .int .i64 0] 41))) := t2 B0 (aB _ _)
  have Z1 : Hid (PkZ ((w.alloc (.cells #[.int .i64 p.pr, .int .i64 p.a1, .int .i64 p.p1, .int .i64 p.a2, .int .i64 p.p2, .int .i64 p.fl] 41)).alloc (.cells #[.int .i64 0, .int .i64 0, .int .i64 0, .int .i64 0, .int .i64 0, .int .i64 0] 41)) (w.heap.size + 1) noP) := by
    have := PkZ.zero (w.alloc (.cells #[.int .i64 p.pr, .int .i64 p.a1, .int .i64 p.p1, .int .i64 p.a2, .int .i64 p.p2, .int .i64 p.fl] 41))
    show PkZ _ _ _
    simpa using this
  clear B0
  generalize (w.alloc (.cells #[.int .i64 p.pr, .int .i64 p.a1, .int .i64 p.p1, .int .i64 p.a2, .int .i64 p.p2, .int .i64 p.fl] 41)).alloc (.cells #[.int .i64 0, .int .i64 0, .int .i64 0, .int .i64 0, .int .i64 0, .int .i64 0] 41) = w1 at *
  have N1 : Hid (Nd w0 w1 k x m n) := HN.out.below B1.out
  have LW : Hid (w.heap.size ≤ w.heap.size) := Nat.le_refl _
  have LQ : Hid (w.heap.size ≤ w.heap.size + 1) := Nat.le_succ _
  generalize hPe : w.heap.size = P at P1 Z1 LW LQ ⊢
  generalize hQe : P + 1 = Q at Z1 LQ ⊢
  have HNQ : Hid (¬ Q ∈ k.all) := fun hm => by have := HN.out.lt _ hm; omega
  have HNP : Hid (¬ P ∈ k.all) := fun hm => by have := HN.out.lt _ hm; omega
  refine (check_nd HS.out N1.out p).mono ?_
  rintro e w2 ⟨rfl, hb2⟩
  have B2 : Hid (Below w.heap.size w w2) := t2 B1.out hb2
  have N2 : Hid (Nd w0 w2 k x m n) := HN.out.below B2.out
  have P2 : Hid (PkZ w2 P p) := P1.out.below hb2
  have Z2 : Hid (PkZ w2 Q noP) := Z1.out.below hb2
  have S2 : Hid (SeM w2 s) := HS.out.below N2.out.bl
  clear hb2 B1 N1 P1 Z1
  by_cases hc : x.chk p = 0
  · have HCK : Hid (x.chk p = 0) := hc
    rw [hc]
    clear hc
    simp only [terr]
    by_cases ha : p.a2 = 1
    · have HA2 : Hid (p.a2 = 1) := ha
      obtain ⟨r0, r1, r2, r3, r4, r5⟩ := P2.out.b
      rw [ha] at r3
      clear ha
      go_upto_region 6 with fail
      clear r0 r1 r2 r3 r4 r5
      go_wp2_with fail
      obtain ⟨o, ho⟩ : ∃ o, x.bck p = o := ⟨_, rfl⟩
      have HO : Hid (x.bck p = o) := ho
      have HFD : Hid (∀ u, Nd w0 u k x m n → Calls Tryd.prog 32 #[.pointer (some ⟨k.tb, 0, none⟩), .int .i64 p.pr, .int .i64 p.p2, .agg #[.int .i64 p.a1, .int .i64 p.p1]] u fun e w' => e = .returned (.tuple #[.int .i64 ((o.getD 0 : Nat) : Int), .bool o.isSome]) ∧ Below u.heap.size u w') := fun u hu => by
        have := back_any k.tb x.low x.T p.pr p.p2 p.a1 p.p1 u hu.tb
        rw [show fst x.T (backQ p.pr p.p2 p.a1 p.p1) = o from ho] at this
        exact this
      clear ho
      obtain ⟨q0, q1, q2, _, q4, _⟩ := (P2.out.below (Below.refl _ _).drew).b
      have hS : w2.drew.cell? ⟨k.nd, 6, none⟩ = some (.pointer (some ⟨k.te, 0, none⟩)) ∧ w2.drew.cell? ⟨k.te, 0, none⟩ = some (.pointer (some ⟨k.tb, 0, none⟩)) ∧ w2.drew.cell? ⟨P, 0, none⟩ = some (.int .i64 p.pr) ∧ w2.drew.cell? ⟨P, 1, none⟩ = some (.int .i64 p.a1) ∧ w2.drew.cell? ⟨P, 2, none⟩ = some (.int .i64 p.p1) ∧ w2.drew.cell? ⟨P, 4, none⟩ = some (.int .i64 p.p2) := ⟨N2.out.c6, N2.out.t0, q0, q1, q2, q4⟩
      clear q0 q1 q2 q4
      go_region_held3 (fun w' => w'.cell? ⟨k.nd, 6, none⟩ = some (.pointer (some ⟨k.te, 0, none⟩)) ∧ w'.cell? ⟨k.te, 0, none⟩ = some (.pointer (some ⟨k.tb, 0, none⟩)) ∧ w'.cell? ⟨P, 0, none⟩ = some (.int .i64 p.pr) ∧ w'.cell? ⟨P, 1, none⟩ = some (.int .i64 p.a1) ∧ w'.cell? ⟨P, 2, none⟩ = some (.int .i64 p.p1) ∧ w'.cell? ⟨P, 4, none⟩ = some (.int .i64 p.p2))
        (first | assumption | exact ⟨tk hb3 hS.1, tk hb3 hS.2.1, tk hb3 hS.2.2.1, tk hb3 hS.2.2.2.1, tk hb3 hS.2.2.2.2.1, tk hb3 hS.2.2.2.2.2⟩)
        (first | (go_at_call 32; refine (HFD.out _ N2.out.drew).mono ?_; rintro e w3 ⟨rfl, hb3⟩))
      have B3 : Hid (Below w.heap.size w w3) := t2 (t2 B2.out (Below.refl _ _).drew) hb3
      have N3 : Hid (Nd w0 w3 k x m n) := HN.out.below B3.out
      have P3 : Hid (PkZ w3 P p) := (P2.out.below (Below.refl _ _).drew).below hb3
      have Z3 : Hid (PkZ w3 Q noP) := (Z2.out.below (Below.refl _ _).drew).below hb3
      have S3 : Hid (SeM w3 s) := HS.out.below N3.out.bl
      clear hS hb3 B2 N2 P2 Z2 S2 HFD
      cases o with
      | some j =>
        have HLT : Hid (j < 32) := fst_lt HO.out
        have HJ : Hid (x.otJ p = some j) := by show _ = _; unfold No.otJ; rw [if_pos HCK.out, if_pos HA2.out, HO.out]
        have HE : Hid (x.otE p = 0) := by show _ = _; unfold No.otE; rw [if_pos HCK.out, if_pos HA2.out, HO.out]
        have HX : Hid (x.ots p = x.stp j p.fl false) := by show _ = _; unfold No.ots; rw [HJ.out]
        have HRU : Hid ((x.stp j p.fl false).ru = x.ru) := stp_ru _ _ _ _
        simp only [Option.isSome_some, Option.getD_some]
        have r5 := P3.out.b.c5
        go_wp2_with fail
        clear r5
        refine (step_nd HS.out N3.out HW.out.2.2 HW.out.1 HW.out.2.1 j HLT.out p.fl false).mono ?_
        rintro e w4 ⟨rfl, n4, k4⟩
        obtain ⟨c, hcc⟩ : ∃ c, x.T j = c := ⟨_, rfl⟩
        have HPP : Hid (x.otP p = ⟨p.pr, p.a1, p.p1, c.ia, c.ip, p.fl⟩) := by show _ = _; unfold No.otP; rw [HJ.out]; simp only [hcc]
        rw [hcc]
        clear hcc
        simp only [flowV]
        have N4 : Hid (Nd w0 w4 k (x.stp j p.fl false) (m + 1) n) := n4
        have X4 : Hid (ChgL k.all w w4) := (ChgL.of B3.out).trans k4
        have P4 : Hid (PkZ w4 P p) := P3.out.chgL k4 HNP.out
        have Z4 : Hid (PkZ w4 Q noP) := Z3.out.chgL k4 HNQ.out
        clear n4 k4 N3 P3 Z3 B3
        obtain ⟨r0, r1, r2, r3, r4, r5⟩ := P4.out.b
        have pf := P4.out.fr
        have hfd : (Instr.field 77 (.agg #[.int .i64 c.pr, .int .i64 c.ia, .int .i64 c.ip, .int .i64 c.fa, .int .i64 c.fp, .int .i64 c.po, .int .i64 c.st, .int .i64 c.un]) 1).run Tryd.prog w4 = .ok (.agg #[.int .i64 c.ia, .int .i64 c.ip]) w4 := by kernel_rfl
        have hcg := set_chg2 w4 P 3 4 (.int .i64 c.ia) (.int .i64 c.ip)
        have Z5 : Hid (PkZ ((w4.setCell ⟨P, 3, none⟩ (.int .i64 c.ia)).setCell ⟨P, 4, none⟩ (.int .i64 c.ip)) Q noP) := Z4.out.chgL (ChgL.one (l := [P]) hcg (by simp)) (by simp; omega)
        obtain ⟨n5, k5⟩ := HN.out.fresh N4.out HRU.out X4.out hcg (by omega)
        obtain ⟨w9, hst, hz9, hc9⟩ := pkz_store Z5.out ⟨p.pr, p.a1, p.p1, c.ia, c.ip, p.fl⟩
        simp only at hst
        obtain ⟨n9, k9⟩ := HN.out.fresh n5 HRU.out k5 hc9 (by omega)
        have N9 : Hid (Nd w0 w9 k (x.stp j p.fl false) (m + 1) n) := n9
        have K9 : Hid (ChgL k.all w w9) := k9
        have Z9 : Hid (PkZ w9 Q ⟨p.pr, p.a1, p.p1, c.ia, c.ip, p.fl⟩) := hz9
        clear n9 k9 hz9 hc9 n5 k5 hcg
        go_wp2_with (refine wpList_store_eq rfl 41 _ _ rfl _ _ _ rfl rfl hst ?_)
        clear hst r0 r1 r2 r3 r4 r5 pf
        have q := Z9.out.b
        go_wp2_with fail
        exact bodyPost_ret (v := .tuple #[Pk.v ⟨p.pr, p.a1, p.p1, c.ia, c.ip, p.fl⟩, .nilIface]) (by simp [results, Tryd.results10, go_sem, q.c0, q.c1, q.c2, q.c3, q.c4, q.c5, Pk.v]) rfl ⟨by rw [HPP.out, HE.out]; rfl, by rw [HX.out]; exact N9.out, K9.out⟩
      | none =>
        have HJ : Hid (x.otJ p = none) := by show _ = _; unfold No.otJ; rw [if_pos HCK.out, if_pos HA2.out, HO.out]
        have HE : Hid (x.otE p = 4) := by show _ = _; unfold No.otE; rw [if_pos HCK.out, if_pos HA2.out, HO.out]
        have HX : Hid (x.ots p = x) := by show _ = _; unfold No.ots; rw [HJ.out]
        have HPP : Hid (x.otP p = noP) := by show _ = _; unfold No.otP; rw [HJ.out]
        simp only [Option.isSome_none, Option.getD_none]
        have s3 := S3.out.c3
        have hGQ : 2 ≠ Q := by have hg : 2 < w0.heap.size := tlt HS.out.c3; have := HN.out.bl.size; omega
        obtain ⟨z0, z1, z2, z3, z4, z5⟩ := Z3.out.b
        have zf := Z3.out.fr
        simp only [noP] at z0 z1 z2 z3 z4 z5
        go_wp2_with fail
        go_region
        all_goals go_wp2_with fail
        all_goals
          refine bodyPost_ret (v := .tuple #[Pk.v noP, .iface 161 (.pointer (some (s 3)))]) (by simp [results, Tryd.results10, go_sem, z0, z1, z2, z3, z4, z5, Pk.v, noP]) rfl ?_
          rw [HPP.out, HE.out, HX.out]
          have hcc : ∀ W, Chg Q w3 W → Nd w0 W k x m n ∧ ChgL k.all w W := fun W hc => HN.out.fresh N3.out rfl (ChgL.of B3.out) hc (by omega)
          refine ⟨rfl, (fun q => ⟨q.1.more (by omega), q.2⟩) (hcc _ ?_)⟩
          exact (set0_chg6 w3 Q).then (Below.refl _ _).drew
    · have HJ : Hid (x.otJ p = none) := by show _ = _; unfold No.otJ; rw [if_pos HCK.out, if_neg ha]
      have HE : Hid (x.otE p = 3) := by show _ = _; unfold No.otE; rw [if_pos HCK.out, if_neg ha]
      have HX : Hid (x.ots p = x) := by show _ = _; unfold No.ots; rw [HJ.out]
      have HPP : Hid (x.otP p = noP) := by show _ = _; unfold No.otP; rw [HJ.out]
      have s2 := S2.out.c2
      have r3 := P2.out.b.c3
      have hGQ : 1 ≠ Q := by have hg : 1 < w0.heap.size := tlt HS.out.c2; have := HN.out.bl.size; omega
      obtain ⟨z0, z1, z2, z3, z4, z5⟩ := Z2.out.b
      have zf := Z2.out.fr
      simp only [noP] at z0 z1 z2 z3 z4 z5
      go_wp2_with fail
      go_region
      all_goals go_wp2_with fail
      all_goals
        refine bodyPost_ret (v := .tuple #[Pk.v noP, .iface 161 (.pointer (some (s 2)))]) (by simp [results, Tryd.results10, go_sem, z0, z1, z2, z3, z4, z5, Pk.v, noP]) rfl ?_
        rw [HPP.out, HE.out, HX.out]
        have hcc : ∀ W, Chg Q w2 W → Nd w0 W k x m n ∧ ChgL k.all w W := fun W hc => HN.out.fresh N2.out rfl (ChgL.of B2.out) hc (by omega)
        refine ⟨rfl, (fun q => ⟨q.1.more (by omega), q.2⟩) (hcc _ ?_)⟩
        exact (set0_chg6 w2 Q).then (Below.refl _ _).drew
  · obtain ⟨e1, he1⟩ : ∃ e1, x.chk p = e1 + 1 := ⟨x.chk p - 1, by omega⟩
    have HE : Hid (x.otE p = e1 + 1) := by show _ = _; unfold No.otE; rw [if_neg hc, he1]
    have HJ : Hid (x.otJ p = none) := by show _ = _; unfold No.otJ; rw [if_neg hc]
    have HX : Hid (x.ots p = x) := by show _ = _; unfold No.ots; rw [HJ.out]
    have HPP : Hid (x.otP p = noP) := by show _ = _; unfold No.otP; rw [HJ.out]
    rw [he1]
    clear hc he1
    simp only [terr]
    obtain ⟨w9, hst0, hz9, hc9⟩ := pkz_store Z2.out noP
    have hst : (Instr.storeAt 41 (.pointer (some ⟨Q, 0, none⟩)) (.agg #[.int .i64 0, .int .i64 0, .int .i64 0, .int .i64 0, .int .i64 0, .int .i64 0])).run Tryd.prog w2 = .ok () w9 := hst0
    obtain ⟨n9, k9⟩ := HN.out.fresh N2.out rfl (ChgL.of B2.out) hc9 (by omega)
    have N9 : Hid (Nd w0 w9 k x m n) := n9
    have K9 : Hid (ChgL k.all w w9) := k9
    have Z9 : Hid (PkZ w9 Q noP) := hz9
    clear n9 k9 hz9 hc9 hst0
    go_wp2_with (refine wpList_store_eq rfl 41 _ _ rfl _ _ _ rfl rfl hst ?_)
    clear hst
    have q := Z9.out.b
    go_wp2_with fail
    exact bodyPost_ret (v := .tuple #[Pk.v noP, .iface 161 (.pointer (some (s e1)))]) (by simp [results, Tryd.results10, go_sem, q.c0, q.c1, q.c2, q.c3, q.c4, q.c5, Pk.v]) rfl ⟨by rw [HPP.out, HE.out]; rfl, by rw [HX.out]; exact N9.out.more (by omega), K9.out⟩
end Go.Proofs.YtjfhompbeengmaaDoor
