/-
  One flow in a law's walk: packets and ticks.
-/
import Derived.Test.YtapdelipmibabaaDoorNtM
import Derived.Test.YtapdelipmibabaaDoorNoY
namespace Go.Proofs.YtapdelipmibabaaDoor
open Go.RowKit

/-- a node whose one flow is of p, in memory. -/
def Lt (w0 w : World) (k : Bk) (p : Pk) (low st un : Int) (l : List Rl) (now c : Nat) : Prop := ∃ x m n, Nd w0 w k x m n ∧ m ≤ 33 * now + c ∧ n ≤ 8 * now ∧ Tn p low st un l now x
def goP (p : Pk) (low : Int) : Pk := ⟨p.pr, 1, low, p.a2, p.p2, p.fl⟩
theorem Lt.bl {w0 w : World} {k : Bk} {p : Pk} {low st un : Int} {l : List Rl} {now c : Nat} (h : Lt w0 w k p low st un l now c) : Below w0.heap.size w0 w := by
  obtain ⟨x, m, n, nd, _⟩ := h; exact nd.bl
theorem Lt.lt {w0 w : World} {k : Bk} {p : Pk} {low st un : Int} {l : List Rl} {now c : Nat} (h : Lt w0 w k p low st un l now c) : ∀ b ∈ k.all, b < w.heap.size := by
  obtain ⟨x, m, n, nd, _⟩ := h; exact nd.lt
theorem Lt.below {w0 w w' : World} {k : Bk} {p : Pk} {low st un : Int} {l : List Rl} {now c : Nat} (h : Lt w0 w k p low st un l now c) (hb : Below w.heap.size w w') : Lt w0 w' k p low st un l now c := by
  obtain ⟨x, m, n, nd, r⟩ := h; exact ⟨x, m, n, nd.below hb, r⟩
theorem inside_first {w0 w : World} {k : Bk} {id ep life : Nat} {y : By} {l : List Rl} {s : Nat → Addr} (S : SeM w0 s) (h : Lr w0 w k id ep life y l 10) (p : Pk) (hp : p.err = 0) (hpp : In6 p.pr) (hb : bgnE p.pr p.fl = 0) (ha : adm l p.pr true p.p2 = true) (hr : RulesOk l) :
    Calls Tryd.prog 9 #[.pointer (some ⟨k.nd, 0, none⟩), p.v] w fun e w' => e = .returned (.tuple #[(goP p (2000 + (id : Int) * 24)).v, .nilIface]) ∧ Lt w0 w' k p (2000 + (id : Int) * 24) (bgnS p.pr p.fl) (10 + stay p.pr (bgnS p.pr p.fl)) l 10 1 ∧ ChgL k.all w w' := by
  obtain ⟨x, n, nd, hn, q, hru⟩ := h
  have hac : x.ro.ac = true := by rw [q.ro, roQ_ac]; rfl
  have hck : x.chk p = 0 := by unfold No.chk; rw [if_pos hp, hac]; rfl
  have hfn : x.fnd p = none := by
    unfold No.fnd
    rw [q.T, fst_none]
    intro j _
    simp [findQ, newT, noC]
  have hlow : x.low = 2000 + (id : Int) * 24 := by unfold No.low; rw [q.ii]
  have hadd : x.addR p = (0, 0, oneT 1 p (2000 + (id : Int) * 24) (bgnS p.pr p.fl) (10 + stay p.pr (bgnS p.pr p.fl))) := by
    unfold No.addR
    rw [q.T, new_add, hlow, q.now]
    rfl
  have hbe : x.bgE p = 0 := by unfold No.bgE; rw [hru, ha, if_pos rfl, if_pos hb, hadd]
  have hou : x.ouE p = 0 := by unfold No.ouE; rw [hfn]; exact hbe
  have hie : x.inE p = 0 := by unfold No.inE; rw [if_pos hck]; exact hou
  have hip : x.inP p = goP p (2000 + (id : Int) * 24) := by
    unfold No.inP No.ouF
    rw [if_pos hie, hfn]
    simp only [No.bgF]
    rw [if_pos hbe, hadd]
    rfl
  have hin : x.ins p = { x with T := oneT 1 p (2000 + (id : Int) * 24) (bgnS p.pr p.fl) (10 + stay p.pr (bgnS p.pr p.fl)) } := by
    unfold No.ins No.ou
    rw [if_pos hck, hfn]
    simp only [No.bg]
    rw [if_pos hbe, hadd]
  refine (inside_nd S nd (by omega) (by rw [q.now]; omega) (by rw [q.now]; omega) (by rw [hru]; exact hr) p hpp).mono ?_
  rintro e w' ⟨rfl, n1, c⟩
  rw [hip, hie]
  rw [hin] at n1
  exact ⟨rfl, ⟨_, _, n, n1, by omega, hn, ⟨hac, q.now, ⟨1, rfl⟩, hru⟩⟩, c⟩
theorem inside_lt {w0 w : World} {k : Bk} {p : Pk} {low st un : Int} {l : List Rl} {now c : Nat} {s : Nat → Addr} (S : SeM w0 s) (h : Lt w0 w k p low st un l now c) (hp : p.err = 0) (hpp : In6 p.pr) (hp0 : p.pr ≠ 0) (hg : nxtG p.pr p.fl = false) (hs : nxtS p.pr st p.fl true = st) (hr : RulesOk l) (hnow : now ≤ 2000) (hc : c ≤ 1000) :
    Calls Tryd.prog 9 #[.pointer (some ⟨k.nd, 0, none⟩), p.v] w fun e w' => e = .returned (.tuple #[(goP p low).v, .nilIface]) ∧ Lt w0 w' k p low st (now + stay p.pr st) l now (c + 1) ∧ ChgL k.all w w' := by
  obtain ⟨x, m, n, nd, hm, hn, q⟩ := h
  obtain ⟨ve, hT⟩ := q.T
  have hck : x.chk p = 0 := by unfold No.chk; rw [if_pos hp, q.ac]; rfl
  have hfn : x.fnd p = some 0 := by unfold No.fnd; rw [hT]; exact one_find hp0
  have hT0 : x.T 0 = ⟨ve, p.pr, p.a1, p.p1, p.a2, p.p2, low, st, un⟩ := by rw [hT]; unfold oneT; rw [upd_same]
  have hie : x.inE p = 0 := by unfold No.inE No.ouE; rw [if_pos hck, hfn]
  have hip : x.inP p = goP p low := by
    unfold No.inP No.ouF
    rw [if_pos hie, hfn]
    simp only [hT0]
    rfl
  have hns : x.nst 0 p.fl true = st := by unfold No.nst; rw [hT0]; exact hs
  have hin : x.ins p = { x with T := oneT (ve + 1) p low st (now + stay p.pr st) } := by
    unfold No.ins No.ou
    rw [if_pos hck, hfn]
    simp only [No.stp]
    rw [hns, hT0]
    simp only [hg]
    rw [if_neg (by simp), q.nw]
    have h0 : setT x.T (0 : Nat) st ((now : Int) + stay p.pr st) = oneT (ve + 1) p low st ((now : Int) + stay p.pr st) := by
      unfold setT
      rw [if_pos]
      · simp only [Int.toNat_natCast, hT0]
        rw [hT]
        unfold oneT
        rw [upd_upd]
      · unfold slotE
        rw [if_neg (by omega), Int.toNat_natCast, hT0, if_neg hp0]
    rw [h0]
  refine (inside_nd S nd (by omega) (by rw [q.nw]; omega) (by rw [q.nw]; omega) (by rw [q.ru]; exact hr) p hpp).mono ?_
  rintro e w' ⟨rfl, n1, cc⟩
  rw [hip, hie]
  rw [hin] at n1
  exact ⟨rfl, ⟨_, _, n, n1, by omega, hn, ⟨q.ac, q.nw, ⟨ve + 1, rfl⟩, q.ru⟩⟩, cc⟩
theorem tick_lt {w0 w : World} {k : Bk} {p : Pk} {low st un : Int} {l : List Rl} {now c : Nat} {s : Nat → Addr} (S : SeM w0 s) (h : Lt w0 w k p low st un l now c) (hu : (now : Int) + 1 < un) (hnow : now ≤ 2000) (hc : c ≤ 1000) :
    Calls Tryd.prog 8 #[.pointer (some ⟨k.nd, 0, none⟩)] w fun e w' => (∃ v, e = .returned (.tuple #[v, .nilIface])) ∧ Lt w0 w' k p low st un l (now + 1) c ∧ ChgL k.all w w' := by
  obtain ⟨x, m, n, nd, hm, hn, q⟩ := h
  obtain ⟨e0, q1⟩ := q.tick hu
  refine (tick_nd S.n nd (by rw [q.nw]; omega) (by rw [q.nw]; omega) (by omega) (by omega)).mono ?_
  rintro r w' ⟨⟨v, rfl, _⟩, ⟨n', hn', n1⟩, cc⟩
  rw [e0]
  exact ⟨⟨v, rfl⟩, ⟨_, _, n', n1, by omega, by omega, q1⟩, cc⟩
/-- its flow is gone. -/
def Lg (w0 w : World) (k : Bk) : Prop := ∃ x m n, Nd w0 w k x m n ∧ (x.T 0).pr = 0
theorem last_lt {w0 w : World} {k : Bk} {p : Pk} {low st un : Int} {l : List Rl} {now c : Nat} {s : Nat → Addr} (S : SeM w0 s) (h : Lt w0 w k p low st un l now c) (hu : un ≤ (now : Int) + 1) (hnow : now ≤ 2000) (hc : c ≤ 1000) :
    Calls Tryd.prog 8 #[.pointer (some ⟨k.nd, 0, none⟩)] w fun e w' => (∃ v, e = .returned (.tuple #[v, .nilIface])) ∧ Lg w0 w' k := by
  obtain ⟨x, m, n, nd, hm, hn, q⟩ := h
  obtain ⟨e0, q1⟩ := q.last hu
  refine (tick_nd S.n nd (by rw [q.nw]; omega) (by rw [q.nw]; omega) (by omega) (by omega)).mono ?_
  rintro r w' ⟨⟨v, rfl, _⟩, ⟨n', hn', n1⟩, cc⟩
  rw [e0]
  exact ⟨⟨v, rfl⟩, ⟨_, _, n', n1, q1⟩⟩
theorem table_lt {w0 w : World} {k : Bk} {p : Pk} {low st un : Int} {l : List Rl} {now c : Nat} (h : Lt w0 w k p low st un l now c) :
    Calls Tryd.prog 10 #[.pointer (some ⟨k.nd, 0, none⟩)] w fun e w' => (∃ Z, e = .returned (.slice (some ⟨Z, 0, none⟩) 32 32) ∧ w'.cell? ⟨Z, 2, none⟩ = some (.int .i64 p.pr)) ∧ Below w.heap.size w w' := by
  obtain ⟨x, m, n, nd, hm, hn, q⟩ := h
  obtain ⟨ve, hT⟩ := q.T
  refine (table_nd nd).mono ?_
  rintro e w1 ⟨⟨Z, rfl, cb, _⟩, b1⟩
  have := cb.sl.at' (i := 0) (k := 2) (by omega) (by omega)
  rw [hT] at this
  exact ⟨⟨Z, rfl, this⟩, b1⟩
theorem table_lg {w0 w : World} {k : Bk} (h : Lg w0 w k) :
    Calls Tryd.prog 10 #[.pointer (some ⟨k.nd, 0, none⟩)] w fun e w' => (∃ Z, e = .returned (.slice (some ⟨Z, 0, none⟩) 32 32) ∧ w'.cell? ⟨Z, 2, none⟩ = some (.int .i64 0)) ∧ Below w0.heap.size w0 w' := by
  obtain ⟨x, m, n, nd, hT⟩ := h
  refine (table_nd nd).mono ?_
  rintro e w1 ⟨⟨Z, rfl, cb, _⟩, b1⟩
  have := cb.sl.at' (i := 0) (k := 2) (by omega) (by omega)
  have h2 : (x.T 0).get 0 2 = (x.T 0).pr := rfl
  rw [h2, hT] at this
  exact ⟨⟨Z, rfl, this⟩, t2 nd.bl b1⟩
end Go.Proofs.YtapdelipmibabaaDoor
