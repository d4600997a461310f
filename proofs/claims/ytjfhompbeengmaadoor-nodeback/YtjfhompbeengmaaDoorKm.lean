/-
  Texts in one: NoQ NoBg.
-/
import Derived.Test.YtjfhompbeengmaaDoorNoD
import Derived.Test.YtjfhompbeengmaaDoorKj
namespace Go.Proofs.YtjfhompbeengmaaDoor
open Go.RowKit

/-- bytes with power, and no cut ahead. -/
structure Qy (y : By) : Prop where
  on : y.on = true
  cut : y.cut = false
  len : y.B.length = 64
  lf : y.left ≤ 9223372036854775807
theorem Qy.new : Qy new0 := ⟨rfl, rfl, rfl, by show (0 : Nat) ≤ _; omega⟩
theorem putE_q {y : By} (h : Qy y) {ep li : Nat} (h1 : (newest y.B).e ≤ ep) (h2 : ep ≤ 1073741824) (h3 : (newest y.B).l ≤ li) (h4 : li ≤ 1073741824) (h5 : (newest y.B).n < 4294967295) :
    (putE false y ep li).1 = 0 ∧ Qy (putE false y ep li).2.1 ∧ newest (putE false y ep li).2.1.B = ⟨(newest y.B).n + 1, ep, li⟩ := by
  have hp := put_on h.on h.cut (nextNm y ep li)
  have e : putE false y ep li = (0, (putS y (nextNm y ep li)).1, false) := by
    unfold putE
    have b1 : badEp ep li = false := by
      unfold badEp isEp
      rw [decide_eq_true (by omega : (0 : Int) ≤ ep), decide_eq_true (by omega : (ep : Int) ≤ 1073741824), decide_eq_true (by omega : (0 : Int) ≤ li), decide_eq_true (by omega : (li : Int) ≤ 1073741824)]
      rfl
    have b2 : oldEp y ep li = false := by
      unfold oldEp
      rw [decide_eq_false (by omega), decide_eq_false (by omega)]
      rfl
    have b3 : ¬ (newest y.B).n = 4294967295 := by omega
    simp only [b1, b2, hp, if_neg b3, Bool.false_eq_true, if_false, if_true]
  have hx : nextNm y ep li = ⟨(newest y.B).n + 1, ep, li⟩ := by unfold nextNm; simp
  have hq := (put_pair (s := y) (x := nextNm y ep li) h.len (by rw [hx]) (by rw [hx]; show _ + 1 < _; omega) (by rw [hx]; show ep < _; omega) (by rw [hx]; show li < _; omega)).1 hp
  have hcut : (putS y (nextNm y ep li)).1.cut = false := by
    unfold putS
    rw [wrs_eq, if_pos ⟨h.on, .inl h.cut⟩]
    exact h.cut
  have hl := putE_left false y ep li
  have hn := putE_len false y ep li
  rw [e] at hl hn ⊢
  exact ⟨rfl, ⟨hq.2, hcut, hn.trans h.len, Nat.le_trans hl h.lf⟩, hq.1.trans hx⟩
theorem expT_new (now : Int) (n : Nat) : expT newT now n = newT := by
  funext j
  unfold expT
  rw [if_neg]
  rintro ⟨_, h⟩
  simp [goneQ, newT, noC] at h
theorem flL_new : ∀ n, flL newT n = []
  | 0 => rfl
  | n + 1 => by rw [flL, if_pos (show (newT n).pr = 0 from rfl), flL_new n]

/-- the role of a node that hears nothing, behind j ticks. -/
def roQ (id : Nat) (ep j : Nat) : Ro := if j ≤ 9 then ⟨id, ep, j, false⟩ else ⟨id, (Ro.new id ep).nx, 10, true⟩
def yQ (id ep life : Nat) (y : By) (j : Nat) : By := if j ≤ 9 then y else (putE false y (Ro.new id ep).nx life).2.1
/-- a node behind j ticks: it heard nothing, and has no flows. -/
structure Qn (id ep life : Nat) (y : By) (j : Nat) (x : No) : Prop where
  ro : x.ro = roQ id ep j
  ii : x.id = id
  li : x.life = life
  now : x.now = j
  T : x.T = newT
  mt : x.mt = newT
  off : x.off = false
  yy : x.y = yQ id ep life y j
theorem Qn.noted {id ep life : Nat} {y : By} {j : Nat} {x : No} (h : Qn id ep life y j x) : Qn id ep life y j x.noted := by
  unfold No.noted
  split
  · exact ⟨h.ro, h.ii, h.li, h.now, h.T, h.mt, h.off, h.yy⟩
  · exact h
theorem Qn.new {id : Nat} {y : By} {l : List Rl} :
    Qn id (newest y.B).e ((newest y.B).l + 1) (No.new id y l).y 0 (No.new id y l) :=
  ⟨rfl, rfl, rfl, rfl, rfl, rfl, rfl, rfl⟩
theorem Qn.tick {id ep life : Nat} {y : By} {j : Nat} {x : No} (h : Qn id ep life y j x) (hep : ep + 2 ≤ 1073741824) (hp : (putE false y (Ro.new id ep).nx life).1 = 0) :
    x.tkE = 0 ∧ Qn id ep life y (j + 1) x.tick := by
  have hT : x.ticked.T = newT := by show expT x.T _ 32 = _; rw [h.T, expT_new]
  have hN : x.ticked.now = (j + 1 : Nat) := by show x.now + 1 = _; rw [h.now]; omega
  by_cases h9 : j ≤ 9
  · have hr : x.ro = ⟨id, ep, j, false⟩ := by rw [h.ro]; unfold roQ; rw [if_pos h9]
    have htk : x.ro.tick = ⟨id, ep, j + 1, false⟩ := by
      rw [hr]
      show (⟨id, ep, if (j : Int) ≤ 9 then (j : Int) + 1 else j, false⟩ : Ro) = _
      rw [if_pos (by omega)]
    have hri : x.ro.rings = decide (9 < (j : Int) + 1) := by
      rw [hr]
      show decide (9 < (if (j : Int) ≤ 9 then (j : Int) + 1 else j)) = _
      rw [if_pos (by omega)]
    by_cases h8 : j = 9
    · subst h8
      have hring : x.ro.rings = true := by rw [hri]; decide
      have hnxe : x.ro.tick.nxE = 0 := by
        rw [htk]
        have := (Ro.nx_lt (r := ⟨id, ep, (9 : Nat) + 1, false⟩))
        unfold Ro.nxE
        rw [if_neg]
        simp only at this
        omega
      have hnx : x.ro.tick.nxV = (Ro.new id ep).nx := by
        have h2 : ¬ 1073741824 < x.ro.tick.nx := by
          intro q; unfold Ro.nxE at hnxe; rw [if_pos q] at hnxe; cases hnxe
        unfold Ro.nxV
        rw [if_neg h2, htk]
        rfl
      have hcp : x.ticked.cp = putE false y (Ro.new id ep).nx life := by
        show putE x.off x.y x.ro.tick.nxV x.life = _
        rw [h.off, h.yy, hnx, h.li]
        rfl
      have hclm : x.ticked.clm = { x.ticked with y := x.ticked.cp.2.1, off := x.ticked.cp.2.2, T := adT x.ticked.now x.ticked.T (flL x.ticked.mt 32), ro := x.ticked.ro.claim x.ticked.ro.nxV } := by
        unfold No.clm
        rw [if_pos (show x.ticked.ro.nxE = 0 from hnxe), if_pos (by rw [hcp]; exact hp)]
      have hcle : x.ticked.clE = 0 := by
        unfold No.clE
        rw [if_pos (show x.ticked.ro.nxE = 0 from hnxe), hcp]
        exact hp
      have hE : x.tkE = 0 := by unfold No.tkE; rw [hring]; exact hcle
      refine ⟨hE, ?_⟩
      have ht : x.tick = x.ticked.clm.noted := by unfold No.tick No.tk1; rw [hE, hring]; rfl
      rw [ht]
      refine Qn.noted ?_
      rw [hclm]
      refine ⟨?_, h.ii, h.li, hN, ?_, h.mt, ?_, ?_⟩
      · show x.ro.tick.claim x.ro.tick.nxV = _
        have hc : x.ro.tick.clE x.ro.tick.nxV = 0 := Ro.clE_ok (by rw [htk]) hnxe
        unfold Ro.claim
        rw [if_pos hc, hnx, htk]
        rfl
      · show adT _ x.ticked.T (flL x.mt 32) = _
        rw [h.mt, flL_new]
        exact hT
      · show x.ticked.cp.2.2 = _
        rw [hcp]
        exact putE_off hp
      · show x.ticked.cp.2.1 = _
        rw [hcp]
        rfl
    · have hring : x.ro.rings = false := by rw [hri]; exact decide_eq_false (by omega)
      have hE : x.tkE = 0 := by unfold No.tkE; rw [hring]; rfl
      refine ⟨hE, ?_⟩
      have ht : x.tick = x.ticked.noted := by unfold No.tick No.tk1; rw [hE, hring]; rfl
      rw [ht]
      refine Qn.noted ⟨?_, h.ii, h.li, hN, hT, h.mt, h.off, ?_⟩
      · show x.ro.tick = _
        rw [htk]
        unfold roQ
        rw [if_pos (by omega)]
        simp
      · show x.y = _
        rw [h.yy]
        unfold yQ
        rw [if_pos h9, if_pos (by omega)]
  · have hr : x.ro = ⟨id, (Ro.new id ep).nx, 10, true⟩ := by rw [h.ro]; unfold roQ; rw [if_neg h9]
    have htk : x.ro.tick = x.ro := by rw [hr]; rfl
    have hring : x.ro.rings = false := by rw [hr]; rfl
    have hE : x.tkE = 0 := by unfold No.tkE; rw [hring]; rfl
    refine ⟨hE, ?_⟩
    have ht : x.tick = x.ticked.noted := by unfold No.tick No.tk1; rw [hE, hring]; rfl
    rw [ht]
    refine Qn.noted ⟨?_, h.ii, h.li, hN, hT, h.mt, h.off, ?_⟩
    · show x.ro.tick = _
      rw [htk, hr]
      unfold roQ
      rw [if_neg (by omega)]
    · show x.y = _
      rw [h.yy]
      unfold yQ
      rw [if_neg h9, if_neg (by omega)]
end Go.Proofs.YtjfhompbeengmaaDoor

namespace Go.Proofs.YtjfhompbeengmaaDoor
open Go.RowKit

def nxN (id ep : Nat) : Nat := if (ep + 1) % 2 = id then ep + 1 else ep + 2
theorem nxN_eq (id ep : Nat) : (Ro.new id ep).nx = (nxN id ep : Nat) := by
  unfold Ro.nx nxN Ro.new
  simp only
  split <;> split <;> omega
theorem nxN_lt (id ep : Nat) : ep < nxN id ep ∧ nxN id ep ≤ ep + 2 := by unfold nxN; split <;> omega
/-- what a life may be begun with. -/
structure Beg (y : By) (n e l : Nat) : Prop where
  q : Qy y
  nw : newest y.B = ⟨n, e, l⟩
  hn : n ≤ 1000
  he : e ≤ 1000
  hl : l ≤ 1000
def yNew (y : By) : By := (putE false y (newest y.B).e ((newest y.B).l + 1)).2.1
theorem Beg.put {y : By} {n e l : Nat} (h : Beg y n e l) {ep : Nat} (h1 : e ≤ ep) (h2 : ep ≤ 10000) {li : Nat} (h3 : l ≤ li) (h4 : li ≤ 10000) : (putE false y ep li).1 = 0 ∧ Qy (putE false y ep li).2.1 ∧ newest (putE false y ep li).2.1.B = ⟨n + 1, ep, li⟩ := by
  have hn := h.hn
  have := putE_q h.q (ep := ep) (li := li) (by rw [h.nw]; exact h1) (by omega) (by rw [h.nw]; exact h3) (by omega) (by rw [h.nw]; show n < _; omega)
  rw [h.nw] at this
  exact this
theorem Beg.new {y : By} {n e l : Nat} (h : Beg y n e l) : (putE false y (newest y.B).e ((newest y.B).l + 1)).1 = 0 ∧ Qy (yNew y) ∧ newest (yNew y).B = ⟨n + 1, e, l + 1⟩ := by
  have := h.put (ep := e) (li := l + 1) (Nat.le_refl _) (by have := h.he; omega) (by omega) (by have := h.hl; omega)
  unfold yNew
  rw [h.nw]
  exact this
theorem Beg.zero : Beg new0 0 0 0 := ⟨Qy.new, new0_newest, by omega, by omega, by omega⟩
theorem RulesOk.nil : RulesOk [] := ⟨by simp, rfl⟩
theorem Sl.nil (w : World) : Sl w (.slice none 0 0) [] := Or.inl ⟨rfl, rfl⟩
end Go.Proofs.YtjfhompbeengmaaDoor
