/-
  Package node's step.
-/
import Derived.Test.YtjhajhbelnlcoaaDoorNoG
import Derived.Deep.DeepCutAuto
import Derived.Deep.CutRange
namespace Go.Proofs.YtjhajhbelnlcoaaDoor
open Go.RowKit

/-- a packet of a flow. -/
def No.nst (x : No) (j : Nat) (fl : Int) (ou : Bool) : Int := nxtS (x.T j).pr (x.T j).st fl ou
def No.stp (x : No) (j : Nat) (fl : Int) (ou : Bool) : No :=
  if nxtG (x.T j).pr fl then { x with T := dropT x.T j } else { x with T := setT x.T j (x.nst j fl ou) (x.now + stay (x.T j).pr (x.nst j fl ou)) }
theorem nst_in {x : No} {j : Nat} {fl : Int} {ou : Bool} (h : In6 (x.T j).st) : In6 (x.nst j fl ou) := by
  unfold No.nst nxtS
  repeat' split
  all_goals first | exact h | exact In6.small (by omega) (by omega)
theorem tset_nd {w0 w : World} {k : Bk} {x : No} {m n : Nat} {s : Nat → Addr} (S : SeM w0 s) (h : Nd w0 w k x m n) (hm : m ≤ 1000000) (j st un : Int) (hs : In6 st) :
    Calls Tryd.prog 55 #[.pointer (some ⟨k.tb, 0, none⟩), .int .i64 j, .int .i64 st, .int .i64 un] w fun e w' => (∃ v, e = .returned v) ∧ Nd w0 w' k { x with T := setT x.T j st un } (m + 1) n ∧ ChgL k.all w w' := by
  refine (set_any k.tb x.low x.T j st un m s w (S.below h.bl).s4 h.tb h.vs hm).mono ?_
  rintro e w' ⟨rfl, t, q⟩
  exact ⟨⟨_, rfl⟩, h.onTb t (h.vs.set _ _ _) (h.wt.set _ _ _ hs) q, ChgL.one q k.m_tb⟩
theorem tdrop_nd {w0 w : World} {k : Bk} {x : No} {m n : Nat} {s : Nat → Addr} (S : SeM w0 s) (h : Nd w0 w k x m n) (hm : m ≤ 1000000) (j : Int) :
    Calls Tryd.prog 54 #[.pointer (some ⟨k.tb, 0, none⟩), .int .i64 j] w fun e w' => (∃ v, e = .returned v) ∧ Nd w0 w' k { x with T := dropT x.T j } (m + 1) n ∧ ChgL k.all w w' := by
  refine (drop_any k.tb x.low x.T j m s w (S.below h.bl).s4 h.tb h.vs hm).mono ?_
  rintro e w' ⟨rfl, t, q⟩
  exact ⟨⟨_, rfl⟩, h.onTb t (h.vs.drop _) (h.wt.drop _) q, ChgL.one q k.m_tb⟩
/-- fresh blocks are written: all else is as it was. -/
theorem Nd.fresh {w0 w u u' : World} {k : Bk} {x y : No} {m n m' n' Q : Nat} (H : Nd w0 w k x m n) (h : Nd w0 u k y m' n') (hy : y.ru = x.ru) (c : ChgL k.all w u) (g : Chg Q u u') (hr : w.heap.size ≤ Q) : Nd w0 u' k y m' n' ∧ ChgL k.all w u' := by
  have g' : ChgL [Q] u u' := ChgL.one g (by simp)
  have hq : ∀ b ∈ [Q], w.heap.size ≤ b := fun b hb => by simp at hb; omega
  refine ⟨h.kept g' (fun b hb hm => ?_) (fun hn a e hm => ?_) (fun b hb => Nat.le_trans H.bl.size (hq b hb)), ?_⟩
  · have := hq b hm; have := H.lt b hb; omega
  · have := hq _ hm
    have hlt : a.block < w.heap.size := by
      have hn' : x.ru ≠ [] := by rw [← hy]; exact hn
      obtain ⟨r, hr'⟩ := List.exists_mem_of_ne_nil _ hn'
      obtain ⟨i, hi⟩ := List.getElem?_of_mem hr'
      obtain ⟨b, o, e2, h0, _⟩ := H.ru i r hi
      rw [e] at e2
      cases e2
      have q : b < w.heap.size := tlt h0
      exact q
    omega
  · have h1 : ChgL (k.all ++ [Q]) w u := c.mono (fun b hb => Or.inl (List.mem_append_left _ hb))
    have h2 : ChgL (k.all ++ [Q]) u u' := g'.mono (fun b hb => Or.inl (List.mem_append_right _ hb))
    exact (h1.trans h2).mono (fun b hb => by rcases List.mem_append.1 hb with q | q; exact Or.inl q; exact Or.inr (hq b q))
set_option maxRecDepth 100000 in
set_option maxHeartbeats 4000000 in
theorem step_nd {w0 w : World} {k : Bk} {x : No} {m n : Nat} {s : Nat → Addr} (S : SeM w0 s) (h : Nd w0 w k x m n) (hm : m ≤ 1000000) (h0 : 0 ≤ x.now) (h1 : x.now ≤ 1000000000) (j : Nat) (hj : j < 32) (fl : Int) (ou : Bool) :
    Calls Tryd.prog 33 #[.pointer (some ⟨k.nd, 0, none⟩), .int .i64 j, .int .i64 fl, .bool ou] w fun e w' => e = .returned (flowV (x.T j)) ∧ Nd w0 w' k (x.stp j fl ou) (m + 1) n ∧ ChgL k.all w w' := by
  have HS : Hid (SeM w0 s) := S
  have HN : Hid (Nd w0 w k x m n) := h
  have HW : Hid (0 ≤ x.now ∧ x.now ≤ 1000000000 ∧ m ≤ 1000000) := ⟨h0, h1, hm⟩
  have HJ : Hid (j < 32) := hj
  clear S h h0 h1 hm hj
  go_enter Tryd.func33, Tryd.ntmps33
  go_wp2_with fail
  have Z1 : Hid (FlZ (w.alloc (.cells #[.int .i64 0, .int .i64 0, .int .i64 0, .int .i64 0, .int .i64 0, .int .i64 0, .int .i64 0, .int .i64 0] 77)) w.heap.size noC) := FlZ.zero w
  have B1 : Hid (Below w.heap.size w (w.alloc (.cells #[.int .i64 0, .int .i64 0, .int .i64 0, .int .i64 0, .int .i64 0, .int .i64 0, .int .i64 0, .int .i64 0] 77))) := aB _ _
  generalize w.alloc (.cells #[.int .i64 0, .int .i64 0, .int .i64 0, .int .i64 0, .int .i64 0, .int .i64 0, .int .i64 0, .int .i64 0] 77) = w1 at *
  refine (flow_nd (HN.out.below B1.out) j HJ.out).mono ?_
  rintro e w2 ⟨rfl, hb2⟩
  have Z2 : Hid (FlZ w2 w.heap.size noC) := Z1.out.below hb2
  have B2 : Hid (Below w.heap.size w w2) := t2 B1.out hb2
  clear hb2 Z1 B1
  obtain ⟨c, hc⟩ : ∃ c, x.T j = c := ⟨_, rfl⟩
  have HCC : Hid (x.T j = c) := hc
  have HI : Hid (In6 c.pr ∧ In6 c.st) := hc ▸ HN.out.wt j HJ.out
  have HG : Hid (nxtG (x.T j).pr fl = nxtG c.pr fl ∧ x.nst j fl ou = nxtS c.pr c.st fl ou) := by rw [hc]; exact ⟨rfl, by unfold No.nst; rw [hc]⟩
  rw [hc]
  clear hc
  simp only [flowV]
  go_wp2_with fail
  have Z3 : Hid (FlZ (w2.alloc (.cells #[.int .i64 c.pr, .int .i64 c.ia, .int .i64 c.ip, .int .i64 c.fa, .int .i64 c.fp, .int .i64 c.po, .int .i64 c.st, .int .i64 c.un] 77)) w.heap.size noC) := Z2.out.below (aB _ _)
  have Y3 : Hid (FlZ (w2.alloc (.cells #[.int .i64 c.pr, .int .i64 c.ia, .int .i64 c.ip, .int .i64 c.fa, .int .i64 c.fp, .int .i64 c.po, .int .i64 c.st, .int .i64 c.un] 77)) w2.heap.size c) := FlZ.new w2 c
  have B3 : Hid (Below w.heap.size w (w2.alloc (.cells #[.int .i64 c.pr, .int .i64 c.ia, .int .i64 c.ip, .int .i64 c.fa, .int .i64 c.fp, .int .i64 c.po, .int .i64 c.st, .int .i64 c.un] 77))) := t2 B2.out (aB _ _)
  have LQ : Hid (w.heap.size ≤ w2.heap.size) := B2.out.size
  generalize w2.alloc (.cells #[.int .i64 c.pr, .int .i64 c.ia, .int .i64 c.ip, .int .i64 c.fa, .int .i64 c.fp, .int .i64 c.po, .int .i64 c.st, .int .i64 c.un] 77) = w3 at *
  generalize w2.heap.size = Q at *
  clear Z2 B2
  have N3 : Hid (Nd w0 w3 k x m n) := HN.out.below B3.out
  refine (tknext_any c.pr c.st fl ou w3).mono ?_
  rintro e w4 ⟨rfl, hw⟩
  obtain rfl := hw.symm
  clear hw
  obtain ⟨st', hst'⟩ : ∃ st', nxtS c.pr c.st fl ou = st' := ⟨_, rfl⟩
  have HIS : Hid (In6 st') := by
    show In6 st'
    rw [← hst', ← HG.out.2]
    exact nst_in (by rw [HCC.out]; exact HI.out.2)
  have HGS : Hid (x.nst j fl ou = st') := HG.out.2.trans hst'
  have HNQ : Hid (¬ Q ∈ k.all) := fun hm => by have := HN.out.lt _ hm; have := LQ.out; omega
  have HNW : Hid (¬ w.heap.size ∈ k.all) := fun hm => by have := HN.out.lt _ hm; omega
  rw [hst']
  clear hst'
  cases hg : nxtG c.pr fl
  · have HX : Hid (x.stp j fl ou = { x with T := setT x.T j st' (x.now + stay c.pr st') }) := by show _ = _; unfold No.stp; rw [HG.out.1, hg, HGS.out, HCC.out]; rfl
    clear hg
    go_upto_region 5 with fail
    go_wp2_with fail
    have HTU : Hid (∀ u, Nd w0 u k x m n → Calls Tryd.prog 56 #[.pointer (some ⟨k.nd, 0, none⟩), .int .i64 c.pr, .int .i64 st'] u fun e w' => e = .returned (.int .i64 (x.now + stay c.pr st')) ∧ Below u.heap.size u w') := fun u hu => until_nd hu c.pr st' HI.out.1 HIS.out HW.out.1 HW.out.2.1
    have HTS : Hid (∀ u un, Nd w0 u k x m n → Calls Tryd.prog 55 #[.pointer (some ⟨k.tb, 0, none⟩), .int .i64 j, .int .i64 st', .int .i64 un] u fun e w' => (∃ v, e = .returned v) ∧ Nd w0 w' k { x with T := setT x.T j st' un } (m + 1) n ∧ ChgL k.all u w') := fun u un hu => tset_nd HS.out hu HW.out.2.2 j st' un HIS.out
    generalize x.now + stay c.pr st' = un at *
    have hS : w3.drew.cell? ⟨k.nd, 6, none⟩ = some (.pointer (some ⟨k.te, 0, none⟩)) ∧ w3.drew.cell? ⟨k.te, 0, none⟩ = some (.pointer (some ⟨k.tb, 0, none⟩)) ∧ w3.drew.cell? ⟨Q, 0, none⟩ = some (.int .i64 c.pr) := ⟨N3.out.c6, N3.out.t0, Y3.out.b.c0⟩
    go_region_held3 (fun w' => w'.cell? ⟨k.nd, 6, none⟩ = some (.pointer (some ⟨k.te, 0, none⟩)) ∧ w'.cell? ⟨k.te, 0, none⟩ = some (.pointer (some ⟨k.tb, 0, none⟩)) ∧ w'.cell? ⟨Q, 0, none⟩ = some (.int .i64 c.pr))
      (first | assumption | exact ⟨tk hb5 hS.1, tk hb5 hS.2.1, tk hb5 hS.2.2⟩ | exact ⟨N6.out.c6, N6.out.t0, K6.out.keeps HNQ.out (tk hb5 hS.2.2)⟩)
      (first
        | (go_at_call 56; refine (HTU.out _ N3.out.drew).mono ?_; rintro e w5 ⟨rfl, hb5⟩)
        | (go_at_call 55; refine (HTS.out _ un (N3.out.drew.below hb5)).mono ?_; rintro e w6 ⟨⟨v6, rfl⟩, n6, k6⟩; have N6 : Hid (Nd w0 w6 k { x with T := setT x.T j st' un } (m + 1) n) := n6; have K6 : Hid (ChgL k.all w5 w6) := k6; clear n6 k6))
    have Z6 : Hid (FlZ w6 w.heap.size noC) := ((Z3.out.below (Below.refl _ _).drew).below hb5).chgL K6.out HNW.out
    have Y6 : Hid (FlZ w6 Q c) := ((Y3.out.below (Below.refl _ _).drew).below hb5).chgL K6.out HNQ.out
    have X6 : Hid (ChgL k.all w w6) := (ChgL.of (t2 (t2 B3.out (Below.refl _ _).drew) hb5)).trans K6.out
    clear hS hb5 K6
    obtain ⟨w7, hst, hz7, hc7⟩ := flz_store Z6.out c
    obtain ⟨n7, k7⟩ := HN.out.fresh N6.out rfl X6.out hc7 (Nat.le_refl _)
    have N7 : Hid (Nd w0 w7 k { x with T := setT x.T j st' un } (m + 1) n) := n7
    have K7 : Hid (ChgL k.all w w7) := k7
    have Z7 : Hid (FlZ w7 w.heap.size c) := hz7
    have y := Y6.out.b
    have y0 := y.c0
    have y1 := y.c1
    have y2 := y.c2
    have y3 := y.c3
    have y4 := y.c4
    have y5 := y.c5
    have y6 := y.c6
    have y7 := y.c7
    clear n7 k7 hz7 hc7 y
    go_wp2_with (refine wpList_store_eq rfl 77 _ _ rfl _ _ _ rfl rfl hst ?_)
    clear hst y0 y1 y2 y3 y4 y5 y6 y7
    have q := Z7.out.b
    go_wp2_with fail
    exact bodyPost_ret (v := flowV c) (by simp [results, Tryd.results33, go_sem, q.c0, q.c1, q.c2, q.c3, q.c4, q.c5, q.c6, q.c7, flowV]) rfl ⟨by rw [HCC.out], by rw [HX.out]; exact N7.out, K7.out⟩
  · have HX : Hid (x.stp j fl ou = { x with T := dropT x.T j }) := by show _ = _; unfold No.stp; rw [HG.out.1, hg]; rfl
    clear hg
    have c6 := N3.out.c6
    have t0 := N3.out.t0
    go_wp2_with fail
    refine (tdrop_nd HS.out N3.out HW.out.2.2 j).mono ?_
    rintro e w6 ⟨⟨v6, rfl⟩, n6, k6⟩
    have N6 : Hid (Nd w0 w6 k { x with T := dropT x.T j } (m + 1) n) := n6
    have Z6 : Hid (FlZ w6 w.heap.size noC) := Z3.out.chgL k6 HNW.out
    have Y6 : Hid (FlZ w6 Q c) := Y3.out.chgL k6 HNQ.out
    have X6 : Hid (ChgL k.all w w6) := (ChgL.of B3.out).trans k6
    clear n6 k6 c6 t0
    obtain ⟨w7, hst, hz7, hc7⟩ := flz_store Z6.out c
    obtain ⟨n7, k7⟩ := HN.out.fresh N6.out rfl X6.out hc7 (Nat.le_refl _)
    have N7 : Hid (Nd w0 w7 k { x with T := dropT x.T j } (m + 1) n) := n7
    have K7 : Hid (ChgL k.all w w7) := k7
    have Z7 : Hid (FlZ w7 w.heap.size c) := hz7
    have y := Y6.out.b
    have y0 := y.c0
    have y1 := y.c1
    have y2 := y.c2
    have y3 := y.c3
    have y4 := y.c4
    have y5 := y.c5
    have y6 := y.c6
    have y7 := y.c7
    clear n7 k7 hz7 hc7 y
    go_wp2_with (refine wpList_store_eq rfl 77 _ _ rfl _ _ _ rfl rfl hst ?_)
    clear hst y0 y1 y2 y3 y4 y5 y6 y7
    have q := Z7.out.b
    go_wp2_with fail
    exact bodyPost_ret (v := flowV c) (by simp [results, Tryd.results33, go_sem, q.c0, q.c1, q.c2, q.c3, q.c4, q.c5, q.c6, q.c7, flowV]) rfl ⟨by rw [HCC.out], by rw [HX.out]; exact N7.out, K7.out⟩
end Go.Proofs.YtjhajhbelnlcoaaDoor
