/-
  Two nodes that are up anew and tick in turn: behind twelve rounds just one is active, and the switch knows it.
-/
import Derived.Test.YtegihhjddnckgaaGreatDoorWnM
namespace Go.Proofs.YtegihhjddnckgaaGreatDoor
open Go.RowKit

theorem Qn.em {i e L : Nat} {Y : By} {j : Nat} {x : No} {M : Int} (h : Qn i e L Y j x) (hm : x.ml ≤ M) : Em i L M j x := ⟨h.ii, h.li, h.now, h.T, h.mt, hm, by rw [h.ro]; unfold roQ; split <;> rfl⟩
theorem Qn.said {i e L : Nat} {Y : By} {j : Nat} {x : No} (h : Qn i e L Y j x) (hj : j ≤ 9) (hE : x.tkE = 0) (h' : Qn i e L Y (j + 1) x.tick) : x.tickL.map x.tk1.fly = if j ≤ 8 then [] else [⟨i, L, (Ro.new i e).nx, true, []⟩] := by
  have sm := tick_same x
  have hT1 := sm.2.2.2.2.2
  have hxa : x.ro.ac = false := by rw [h.ro]; unfold roQ; rw [if_pos hj]
  have hnow : x.tk1.now = ((j + 1 : Nat) : Int) := by rw [(tk1_ml x).2.1, h.now]; omega
  by_cases h9 : j = 9
  · subst h9
    have hro : x.tick.ro = ⟨i, (Ro.new i e).nx, 10, true⟩ := by
      rw [h'.ro]
      unfold roQ
      rw [if_neg (by omega)]
    have hL : x.tickL = [⟨true, []⟩] := by
      unfold No.tickL No.notes
      rw [if_pos hE, ← hT1, hro, hxa]
      have hd : x.tk1.due = false := by unfold No.due; rw [hnow]; decide
      rw [hd]
      rfl
    rw [hL, if_neg (by omega)]
    show [x.tk1.fly ⟨true, []⟩] = _
    unfold No.fly
    rw [sm.2.2.2.2.1, h.ii, (tk1_ml x).2.2.1, h.li, ← hT1, hro]
    rfl
  · have hro : x.tick.ro = ⟨i, (e : Int), ((j + 1 : Nat) : Int), false⟩ := by
      rw [h'.ro]
      unfold roQ
      rw [if_pos (by omega)]
    have hL : x.tickL = [] := by
      unfold No.tickL No.notes
      rw [if_pos hE, ← hT1, hro]
      rfl
    rw [hL, if_pos (by omega)]
    rfl
theorem tick_ml (x : No) : x.tick.ml = x.ml := by rw [(tick_tk1 x).2.2.2.2.2.2.1, (tk1_ml x).1]
/-- what both begin with. -/
structure Bg2 (e L : Nat → Nat) (Y : Nat → By) : Prop where
  be : ∀ i, i < 2 → e i ≤ 5000
  bl : ∀ i, i < 2 → 1 ≤ L i
  p : ∀ i, i < 2 → (putE false (Y i) (Ro.new i (e i)).nx (L i)).1 = 0
def EE (e : Nat → Nat) (i : Nat) : Int := (Ro.new i (e i)).nx
theorem EE_lt (e : Nat → Nat) (i : Nat) : (e i : Int) < EE e i ∧ EE e i ≤ (e i : Int) + 2 := Ro.nx_lt (r := Ro.new i (e i))
theorem EE_par (e : Nat → Nat) {i : Nat} (hi : i < 2) : EE e i % 2 = i := by
  unfold EE Ro.nx Ro.new
  simp only
  split <;> omega
/-- what the switch knows behind a ticks of the first one, b of the other one. -/
def Sw (e : Nat → Nat) (f a b : Nat) (V : Wo) : Prop :=
  (a ≤ 9 ∧ (V.he ≤ e f ∨ V.he ≤ e (1 - f))) ∨
  (a = 10 ∧ b = 9 ∧ ((V.hn = f ∧ V.he = EE e f) ∨ (EE e f ≤ V.he ∧ V.he ≤ e (1 - f)))) ∨
  (10 ≤ b ∧ ((EE e (1 - f) < EE e f ∧ V.hn = f ∧ V.he = EE e f) ∨ (EE e f < EE e (1 - f) ∧ V.hn = ((1 - f : Nat) : Int) ∧ V.he = EE e (1 - f))))
def Pa (e L : Nat → Nat) (Y : Nat → By) (f a b : Nat) (V : Wo) : Prop :=
  ∃ x y, V.nd f = some x ∧ V.nd (1 - f) = some y ∧ V.fl = [] ∧ Qn f (e f) (L f) (Y f) a x ∧ Qn (1 - f) (e (1 - f)) (L (1 - f)) (Y (1 - f)) b y ∧ x.ml ≤ L (1 - f) ∧ y.ml ≤ L f ∧ Sw e f a b V
section
variable {e L : Nat → Nat} {Y : Nat → By} {f a b : Nat} {V : Wo}
/-- a node ticks that has heard nothing: what is said. -/
theorem Qn.half {i j : Nat} {x : No} (B : Bg2 e L Y) (hi : i < 2) (hx : V.nd i = some x) (hf : V.fl = []) (h : Qn i (e i) (L i) (Y i) j x) (hm : x.ml ≤ L (1 - i)) (hj : j ≤ 10) : V.tcE (i : Int) = 0 ∧ ∃ x', (half i V).nd = setN V.nd i (some x') ∧ Qn i (e i) (L i) (Y i) (j + 1) x' ∧ x'.ml ≤ L (1 - i) ∧ (half i V).fl = [] ∧ (half i V).hn = (if j = 9 ∧ V.he < EE e i then (i : Int) else V.hn) ∧ (half i V).he = (if j = 9 ∧ V.he < EE e i then EE e i else V.he) := by
  obtain ⟨hE, h'⟩ := h.tick (by have := B.be i hi; omega) (B.p i hi)
  refine ⟨(tcd_up hi hx hE).1, x.tick, ?_⟩
  have hml : x.tick.ml ≤ L (1 - i) := by rw [tick_ml]; exact hm
  by_cases h9 : j = 9
  · have hs := h.said (by omega) hE h'
    rw [if_neg (by omega)] at hs
    obtain ⟨k1, k2, k3, k4⟩ := half_claim hi hx hf hE rfl hs
    refine ⟨k1, h', hml, k2, ?_, ?_⟩
    · rw [k3]
      unfold swN
      show (if V.he < EE e i then (i : Int) else V.hn) = _
      by_cases q : V.he < EE e i
      · rw [if_pos q, if_pos ⟨h9, q⟩]
      · rw [if_neg q, if_neg (fun z => q z.2)]
    · rw [k4]
      unfold swE
      show (if V.he < EE e i then EE e i else V.he) = _
      by_cases q : V.he < EE e i
      · rw [if_pos q, if_pos ⟨h9, q⟩]
      · rw [if_neg q, if_neg (fun z => q z.2)]
  · have hq : x.tickL.map x.tk1.fly = [] := by
      by_cases h8 : j ≤ 8
      · have hs := h.said (by omega) hE h'
        rw [if_pos h8] at hs
        exact hs
      · have hj10 : j = 10 := by omega
        subst hj10
        have hac : x.ro.ac = true := by rw [h.ro]; rfl
        rcases ((h.em (M := x.ml) (Int.le_refl _)).act hac).2.2.2 with ⟨_, q⟩ | ⟨q, _⟩
        · exact q
        · exact absurd q (by decide)
    obtain ⟨k1, k2, k3, k4⟩ := half_quiet hi hx hf hE hq
    exact ⟨k1, h', hml, k2, by rw [k3, if_neg (fun z => h9 z.1)], by rw [k4, if_neg (fun z => h9 z.1)]⟩
theorem one_one (hf : f < 2) : 1 - (1 - f) = f := by omega
theorem Pa.first (B : Bg2 e L Y) (hf : f < 2) (h : Pa e L Y f a a V) (ha : a ≤ 10) : V.tcE (f : Int) = 0 ∧ Pa e L Y f (a + 1) a (half f V) := by
  obtain ⟨x, y, hx, hy, hfl, qx, qy, mx, my, sw⟩ := h
  obtain ⟨h0, x', n1, q', m', f', s1, s2⟩ := qx.half B hf hx hfl mx ha
  refine ⟨h0, x', y, by rw [n1, setN_same], by rw [n1, setN_other _ _ (by omega)]; exact hy, f', q', qy, m', my, ?_⟩
  have hE := EE_lt e f
  have hE2 := EE_lt e (1 - f)
  unfold Sw at sw ⊢
  rw [s1, s2]
  rcases sw with ⟨a1, a2⟩ | ⟨a1, a2, _⟩ | ⟨a1, a2⟩
  · by_cases h9 : a = 9
    · right; left
      refine ⟨by omega, h9, ?_⟩
      by_cases q : V.he < EE e f
      · rw [if_pos ⟨h9, q⟩, if_pos ⟨h9, q⟩]
        exact .inl ⟨rfl, rfl⟩
      · rw [if_neg (fun z => q z.2), if_neg (fun z => q z.2)]
        exact .inr ⟨by omega, by omega⟩
    · left
      rw [if_neg (fun z => h9 z.1)]
      exact ⟨by omega, a2⟩
  · omega
  · right; right
    rw [if_neg (by omega), if_neg (by omega)]
    exact ⟨a1, a2⟩
theorem Pa.other (B : Bg2 e L Y) (hf : f < 2) (h : Pa e L Y f (a + 1) a V) (ha : a ≤ 10) : V.tcE ((1 - f : Nat) : Int) = 0 ∧ Pa e L Y f (a + 1) (a + 1) (half (1 - f) V) := by
  obtain ⟨x, y, hx, hy, hfl, qx, qy, mx, my, sw⟩ := h
  have my' : y.ml ≤ L (1 - (1 - f)) := by rw [one_one hf]; exact my
  obtain ⟨h0, y', n1, q', m', f', s1, s2⟩ := qy.half B (by omega) hy hfl my' ha
  rw [one_one hf] at m'
  refine ⟨h0, x, y', by rw [n1, setN_other _ _ (by omega)]; exact hx, by rw [n1, setN_same], f', qx, q', mx, m', ?_⟩
  have hE := EE_lt e f
  have hE2 := EE_lt e (1 - f)
  have p1 := EE_par e hf
  have p2 := EE_par e (i := 1 - f) (by omega)
  unfold Sw at sw ⊢
  rw [s1, s2]
  rcases sw with ⟨a1, a2⟩ | ⟨a1, a2, a3⟩ | ⟨a1, a2⟩
  · left
    rw [if_neg (by omega)]
    exact ⟨a1, a2⟩
  · right; right
    refine ⟨by omega, ?_⟩
    by_cases q : V.he < EE e (1 - f)
    · rw [if_pos ⟨a2, q⟩, if_pos ⟨a2, q⟩]
      by_cases g : EE e f < EE e (1 - f)
      · exact .inr ⟨g, rfl, rfl⟩
      · rcases a3 with ⟨b1, b2⟩ | ⟨b1, b2⟩ <;> omega
    · rw [if_neg (fun z => q z.2), if_neg (fun z => q z.2)]
      rcases a3 with ⟨b1, b2⟩ | ⟨b1, b2⟩
      · exact .inl ⟨by omega, b1, b2⟩
      · omega
  · right; right
    rw [if_neg (by omega), if_neg (by omega)]
    exact ⟨by omega, a2⟩
/-- one is active, the other one stands by and hears it. -/
def Pe (Lg Ls : Int) (g : Nat) (E : Int) (last : Bool) (n m : Int) (V : Wo) : Prop :=
  ∃ x y, V.nd g = some x ∧ V.nd (1 - g) = some y ∧ V.fl = [] ∧ Em g Lg Ls n x ∧ Em (1 - g) Ls Lg m y ∧ x.ro.ac = true ∧ x.ro.ep = E ∧ y.ro.ac = false ∧ y.ro.ep = E ∧ y.ro.si ≤ n % 3 + (if last then 0 else 1) ∧ V.hn = g ∧ V.he = E
theorem hear_same {r : Ro} {E : Int} (he : r.ep = E) (ha : r.ac = false) (h0 : 0 ≤ E) (h1 : E ≤ 1073741824) : r.hear E = ⟨r.nd, E, 0, false⟩ := by
  have hh : r.heard E = true := by
    unfold Ro.heard
    rw [isEpR_iff.2 ⟨h0, h1⟩, decide_eq_false (by omega)]
    rfl
  unfold Ro.hear
  rw [if_pos hh, ha]
  rfl
theorem hear_more {r : Ro} {E : Int} (he : r.ep < E) (h0 : 0 ≤ E) (h1 : E ≤ 1073741824) : r.hear E = ⟨r.nd, E, 0, false⟩ := by
  have hh : r.heard E = true := by
    unfold Ro.heard
    rw [isEpR_iff.2 ⟨h0, h1⟩, decide_eq_false (by omega)]
    rfl
  unfold Ro.hear
  rw [if_pos hh, decide_eq_true he, Bool.not_true, Bool.and_false]
theorem hear_less {r : Ro} {E : Int} (he : E < r.ep) : r.hear E = r := by
  unfold Ro.hear Ro.heard
  rw [decide_eq_true he, Bool.not_true, Bool.and_false]
  rfl
theorem Pe.big {Lg Ls : Int} {g : Nat} {E n m : Int} (hg : g < 2) (hL : 1 ≤ Lg) (h0 : 0 ≤ E) (h1 : E ≤ 1073741824) (h : Pe Lg Ls g E false n m V) : V.tcE (g : Int) = 0 ∧ Pe Lg Ls g E true (n + 1) m (half g V) := by
  obtain ⟨x, y, hx, hy, hf, ex, ey, xa, xe, ya, ye, ys, sn, se⟩ := h
  have ys' : y.ro.si ≤ n % 3 + 1 := ys
  obtain ⟨hE, ex', hro, hs⟩ := ex.act xa
  refine ⟨(tcd_up hg hx hE).1, ?_⟩
  rcases hs with ⟨q, hs⟩ | ⟨q, cs, c8, cok, hs⟩
  · obtain ⟨k1, k2, k3, k4⟩ := half_quiet hg hx hf hE hs
    refine ⟨x.tick, y, by rw [k1, setN_same], by rw [k1, setN_other _ _ (by omega)]; exact hy, k2, ex', ey, by rw [hro]; exact xa, by rw [hro]; exact xe, ya, ye, ?_, by rw [k3]; exact sn, by rw [k4]; exact se⟩
    show y.ro.si ≤ (n + 1) % 3 + 0
    omega
  · obtain ⟨k1, k2, k3, k4⟩ := half_both hg hx hy hf hE (u := ⟨g, Lg, x.ro.ep, false, cs⟩) rfl rfl rfl hs
    have hh := ey.hear (ep := x.ro.ep) (cs := cs) (by omega) hL (by omega) (by omega) c8 cok
    rw [one_one hg] at hh
    rw [xe] at hh
    refine ⟨x.tick, y.hrd ⟨g, Lg, x.ro.ep, false, cs⟩, by rw [k1, setN_other _ _ (by omega), setN_same], by rw [k1, setN_same], k2, ex', by rw [xe]; exact hh.1, by rw [hro]; exact xa, by rw [hro]; exact xe, ?_, ?_, ?_, ?_, ?_⟩
    · rw [xe, hh.2, hear_same ye ya h0 h1]
    · rw [xe, hh.2, hear_same ye ya h0 h1]
    · rw [xe, hh.2, hear_same ye ya h0 h1]
      show (0 : Int) ≤ (n + 1) % 3 + 0
      omega
    · rw [k3, xe]
      unfold swN
      rw [if_neg (by show ¬ V.he < E; omega)]
      exact sn
    · rw [k4, xe]
      unfold swE
      rw [if_neg (by show ¬ V.he < E; omega)]
      exact se
theorem Pe.small {Lg Ls : Int} {g : Nat} {E n m : Int} (hg : g < 2) (h : Pe Lg Ls g E true n m V) : V.tcE ((1 - g : Nat) : Int) = 0 ∧ Pe Lg Ls g E false n (m + 1) (half (1 - g) V) := by
  obtain ⟨x, y, hx, hy, hf, ex, ey, xa, xe, ya, ye, ys, sn, se⟩ := h
  have ys' : y.ro.si ≤ n % 3 + 0 := ys
  obtain ⟨hE, ey', hro, hs⟩ := ey.sby ya (by omega)
  refine ⟨(tcd_up (by omega) hy hE).1, ?_⟩
  obtain ⟨k1, k2, k3, k4⟩ := half_quiet (by omega) hy hf hE hs
  refine ⟨x, y.tick, by rw [k1, setN_other _ _ (by omega)]; exact hx, by rw [k1, setN_same], k2, ex, ey', xa, xe, by rw [hro], by rw [hro]; exact ye, ?_, by rw [k3]; exact sn, by rw [k4]; exact se⟩
  rw [hro]
  show y.ro.si + 1 ≤ n % 3 + 1
  omega
/-- behind the first one's twelfth tick. -/
def Pm (e L : Nat → Nat) (f : Nat) (V : Wo) : Prop :=
  (EE e (1 - f) < EE e f ∧ Pe (L f) (L (1 - f)) f (EE e f) true 12 11 V) ∨
  (EE e f < EE e (1 - f) ∧ ∃ x y, V.nd f = some x ∧ V.nd (1 - f) = some y ∧ V.fl = [] ∧ Em f (L f) (L (1 - f)) 12 x ∧ Em (1 - f) (L (1 - f)) (L f) 11 y ∧ x.ro.ac = true ∧ x.ro.ep = EE e f ∧ y.ro.ac = true ∧ y.ro.ep = EE e (1 - f) ∧ V.hn = ((1 - f : Nat) : Int) ∧ V.he = EE e (1 - f))
theorem Pa.mid (B : Bg2 e L Y) (hf : f < 2) (h : Pa e L Y f 11 11 V) : V.tcE (f : Int) = 0 ∧ Pm e L f (half f V) := by
  obtain ⟨x, y, hx, hy, hfl, qx, qy, mx, my, sw⟩ := h
  have hE := EE_lt e f
  have hE2 := EE_lt e (1 - f)
  have b1 := B.be f hf
  have b2 := B.be (1 - f) (by omega)
  have l1 := B.bl f hf
  have l2 := B.bl (1 - f) (by omega)
  have xro : x.ro = ⟨f, EE e f, 10, true⟩ := qx.ro
  have yro : y.ro = ⟨((1 - f : Nat) : Int), EE e (1 - f), 10, true⟩ := qy.ro
  have ex := qx.em mx
  have ey := qy.em my
  have xa : x.ro.ac = true := by rw [xro]
  have xe : x.ro.ep = EE e f := by rw [xro]
  obtain ⟨hE0, ex', hro, hs⟩ := ex.act xa
  refine ⟨(tcd_up hf hx hE0).1, ?_⟩
  rcases hs with ⟨q, _⟩ | ⟨_, cs, c8, cok, hs⟩
  · exact absurd (by decide) q
  obtain ⟨k1, k2, k3, k4⟩ := half_both hf hx hy hfl hE0 (u := ⟨f, L f, x.ro.ep, false, cs⟩) rfl rfl rfl hs
  have hh := ey.hear (ep := x.ro.ep) (cs := cs) (by omega) (by omega) (by omega) (by omega) c8 cok
  rw [one_one hf] at hh
  rw [xe] at hh
  have ex2 : Em f (L f) (L (1 - f)) 12 x.tick := ex'
  rw [xe] at k1 k3 k4
  unfold Sw at sw
  rcases sw with ⟨a1, _⟩ | ⟨a1, _⟩ | ⟨_, sw⟩
  · omega
  · omega
  rcases sw with ⟨g, sn, se⟩ | ⟨g, sn, se⟩
  · refine .inl ⟨g, x.tick, y.hrd ⟨f, L f, EE e f, false, cs⟩, by rw [k1, setN_other _ _ (by omega), setN_same], by rw [k1, setN_same], k2, ex2, hh.1, by rw [hro]; exact xa, by rw [hro]; exact xe, ?_, ?_, ?_, ?_, ?_⟩
    · rw [hh.2, yro, hear_more (by show EE e (1 - f) < EE e f; exact g) (by omega) (by omega)]
    · rw [hh.2, yro, hear_more (by show EE e (1 - f) < EE e f; exact g) (by omega) (by omega)]
    · rw [hh.2, yro, hear_more (by show EE e (1 - f) < EE e f; exact g) (by omega) (by omega)]
      show (0 : Int) ≤ 12 % 3 + 0
      decide
    · rw [k3]; unfold swN; rw [if_neg (by show ¬ V.he < EE e f; omega)]; exact sn
    · rw [k4]; unfold swE; rw [if_neg (by show ¬ V.he < EE e f; omega)]; exact se
  · refine .inr ⟨g, x.tick, y.hrd ⟨f, L f, EE e f, false, cs⟩, by rw [k1, setN_other _ _ (by omega), setN_same], by rw [k1, setN_same], k2, ex2, hh.1, by rw [hro]; exact xa, by rw [hro]; exact xe, ?_, ?_, ?_, ?_⟩
    · rw [hh.2, hear_less (by rw [yro]; exact g), yro]
    · rw [hh.2, hear_less (by rw [yro]; exact g), yro]
    · rw [k3]; unfold swN; rw [if_neg (by show ¬ V.he < EE e f; omega)]; exact sn
    · rw [k4]; unfold swE; rw [if_neg (by show ¬ V.he < EE e f; omega)]; exact se
theorem Pm.other (B : Bg2 e L Y) (hf : f < 2) (h : Pm e L f V) : V.tcE ((1 - f : Nat) : Int) = 0 ∧ ((EE e (1 - f) < EE e f ∧ Pe (L f) (L (1 - f)) f (EE e f) false 12 12 (half (1 - f) V)) ∨ (EE e f < EE e (1 - f) ∧ Pe (L (1 - f)) (L f) (1 - f) (EE e (1 - f)) true 12 12 (half (1 - f) V))) := by
  have hE := EE_lt e f
  have hE2 := EE_lt e (1 - f)
  have b1 := B.be f hf
  have b2 := B.be (1 - f) (by omega)
  have l1 := B.bl f hf
  have l2 := B.bl (1 - f) (by omega)
  rcases h with ⟨g, h⟩ | ⟨g, x, y, hx, hy, hfl, ex, ey, xa, xe, ya, ye, sn, se⟩
  · have k := h.small hf
    exact ⟨k.1, .inl ⟨g, k.2⟩⟩
  · obtain ⟨hE0, ey', hro, hs⟩ := ey.act ya
    refine ⟨(tcd_up (by omega) hy hE0).1, .inr ⟨g, ?_⟩⟩
    rcases hs with ⟨q, _⟩ | ⟨_, cs, c8, cok, hs⟩
    · exact absurd (by decide) q
    have hx' : V.nd (1 - (1 - f)) = some x := by rw [one_one hf]; exact hx
    obtain ⟨k1, k2, k3, k4⟩ := half_both (by omega) hy hx' hfl hE0 (u := ⟨((1 - f : Nat) : Int), L (1 - f), y.ro.ep, false, cs⟩) rfl rfl rfl hs
    have hh := ex.hear (ep := y.ro.ep) (cs := cs) hf (by omega) (by omega) (by omega) c8 cok
    rw [ye] at hh k1 k3 k4
    have xr : x.ro.hear (EE e (1 - f)) = ⟨x.ro.nd, EE e (1 - f), 0, false⟩ := hear_more (by rw [xe]; exact g) (by omega) (by omega)
    have ey2 : Em (1 - f) (L (1 - f)) (L f) 12 y.tick := ey'
    unfold Pe
    rw [one_one hf] at k1 ⊢
    refine ⟨y.tick, x.hrd ⟨((1 - f : Nat) : Int), L (1 - f), EE e (1 - f), false, cs⟩, by rw [k1, setN_other _ _ (by omega), setN_same], by rw [k1, setN_same], k2, ey2, hh.1, by rw [hro]; exact ya, by rw [hro]; exact ye, ?_, ?_, ?_, ?_, ?_⟩
    · rw [hh.2, xr]
    · rw [hh.2, xr]
    · rw [hh.2, xr]
      show (0 : Int) ≤ 12 % 3 + 0
      decide
    · rw [k3]; unfold swN; rw [if_neg (by show ¬ V.he < EE e (1 - f); omega)]; exact sn
    · rw [k4]; unfold swE; rw [if_neg (by show ¬ V.he < EE e (1 - f); omega)]; exact se
end
/-- behind so many halves of rounds. -/
def PO (e L : Nat → Nat) (Y : Nat → By) (f h : Nat) (V : Wo) : Prop :=
  (h ≤ 22 ∧ Pa e L Y f ((h + 1) / 2) (h / 2) V) ∨ (h = 23 ∧ Pm e L f V) ∨
  (24 ≤ h ∧ ((EE e (1 - f) < EE e f ∧ Pe (L f) (L (1 - f)) f (EE e f) (decide (h % 2 = 1)) ((h + 1) / 2 : Nat) (h / 2 : Nat) V) ∨ (EE e f < EE e (1 - f) ∧ Pe (L (1 - f)) (L f) (1 - f) (EE e (1 - f)) (decide (h % 2 = 0)) (h / 2 : Nat) ((h + 1) / 2 : Nat) V)))
def who (f h : Nat) : Nat := if h % 2 = 0 then f else 1 - f
theorem PO.step {e L : Nat → Nat} {Y : Nat → By} {f h : Nat} {V : Wo} (B : Bg2 e L Y) (hf : f < 2) (p : PO e L Y f h V) : V.tcE (who f h : Int) = 0 ∧ PO e L Y f (h + 1) (half (who f h) V) := by
  have hE := EE_lt e f
  have hE2 := EE_lt e (1 - f)
  have b1 := B.be f hf
  have b2 := B.be (1 - f) (by omega)
  have l1 := B.bl f hf
  have l2 := B.bl (1 - f) (by omega)
  unfold who
  rcases p with ⟨h1, p⟩ | ⟨rfl, p⟩ | ⟨h1, p⟩
  · by_cases he : h % 2 = 0
    · rw [if_pos he]
      by_cases h22 : h = 22
      · subst h22
        have k := p.mid B hf
        exact ⟨k.1, .inr (.inl ⟨rfl, k.2⟩)⟩
      · have e1 : (h + 1) / 2 = h / 2 := by omega
        rw [e1] at p
        have k := p.first B hf (by omega)
        refine ⟨k.1, .inl ⟨by omega, ?_⟩⟩
        have e2 : (h + 1 + 1) / 2 = h / 2 + 1 := by omega
        rw [e2, e1]
        exact k.2
    · rw [if_neg he]
      have e1 : (h + 1) / 2 = h / 2 + 1 := by omega
      rw [e1] at p
      have k := p.other B hf (by omega)
      refine ⟨k.1, .inl ⟨by omega, ?_⟩⟩
      have e2 : (h + 1 + 1) / 2 = h / 2 + 1 := by omega
      rw [e2, e1]
      exact k.2
  · rw [if_neg (by omega)]
    have k := p.other B hf
    refine ⟨k.1, .inr (.inr ⟨by omega, ?_⟩)⟩
    exact k.2
  · rcases p with ⟨g, p⟩ | ⟨g, p⟩
    · by_cases he : h % 2 = 0
      · rw [if_pos he]
        rw [decide_eq_false (by omega)] at p
        have k := p.big hf (by omega) (by omega) (by omega)
        refine ⟨k.1, .inr (.inr ⟨by omega, .inl ⟨g, ?_⟩⟩)⟩
        rw [decide_eq_true (by omega)]
        have e1 : (((h + 1 + 1) / 2 : Nat) : Int) = ((h + 1) / 2 : Nat) + 1 := by omega
        have e2 : (h + 1) / 2 = h / 2 := by omega
        rw [e1]
        have := k.2
        rw [show (h + 1) / 2 = h / 2 from e2] at this ⊢
        exact this
      · rw [if_neg he]
        rw [decide_eq_true (by omega)] at p
        have k := p.small hf
        refine ⟨k.1, .inr (.inr ⟨by omega, .inl ⟨g, ?_⟩⟩)⟩
        rw [decide_eq_false (by omega)]
        have e1 : (h + 1 + 1) / 2 = (h + 1) / 2 := by omega
        have e2 : (((h + 1) / 2 : Nat) : Int) = (h / 2 : Nat) + 1 := by omega
        have := k.2
        rw [e1]
        rw [← e2] at this
        exact this
    · by_cases he : h % 2 = 0
      · rw [if_pos he]
        rw [decide_eq_true he] at p
        have k := p.small (by omega)
        rw [one_one hf] at k
        refine ⟨k.1, .inr (.inr ⟨by omega, .inr ⟨g, ?_⟩⟩)⟩
        rw [decide_eq_false (by omega)]
        have e1 : (((h + 1 + 1) / 2 : Nat) : Int) = ((h + 1) / 2 : Nat) + 1 := by omega
        have e2 : (h + 1) / 2 = h / 2 := by omega
        have := k.2
        rw [e1]
        rw [e2] at this ⊢
        exact this
      · rw [if_neg he]
        rw [decide_eq_false he] at p
        have k := p.big (by omega) (by omega) (by omega) (by omega)
        refine ⟨k.1, .inr (.inr ⟨by omega, .inr ⟨g, ?_⟩⟩)⟩
        rw [decide_eq_true (by omega)]
        have e1 : (h + 1 + 1) / 2 = (h + 1) / 2 := by omega
        have e2 : (((h + 1) / 2 : Nat) : Int) = (h / 2 : Nat) + 1 := by omega
        have := k.2
        rw [e1]
        rw [← e2] at this
        exact this
/-- behind all: just one is active, and the switch knows it. -/
theorem PO.fin {e L : Nat → Nat} {Y : Nat → By} {f : Nat} {V : Wo} (hf : f < 2) (p : PO e L Y f 48 V) : ∃ g x y, g < 2 ∧ V.nd g = some x ∧ V.nd (1 - g) = some y ∧ x.ro.ac = true ∧ y.ro.ac = false ∧ V.hn = ((g : Nat) : Int) ∧ V.he = x.ro.ep ∧ V.he ≠ 0 := by
  have hE := EE_lt e f
  have hE2 := EE_lt e (1 - f)
  rcases p with ⟨h1, _⟩ | ⟨h1, _⟩ | ⟨_, ⟨g, x, y, hx, hy, _, _, _, xa, xe, ya, _, _, sn, se⟩ | ⟨g, x, y, hx, hy, _, _, _, xa, xe, ya, _, _, sn, se⟩⟩
  · omega
  · omega
  · exact ⟨f, x, y, hf, hx, hy, xa, ya, sn, by rw [se, xe], by omega⟩
  · exact ⟨1 - f, x, y, by omega, hx, hy, xa, ya, sn, by rw [se, xe], by omega⟩
end Go.Proofs.YtegihhjddnckgaaGreatDoor
