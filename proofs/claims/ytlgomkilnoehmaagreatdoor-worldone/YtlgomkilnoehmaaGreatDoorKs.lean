/-
  Texts in one: WnM WnP.
-/
import Derived.Test.YtlgomkilnoehmaaGreatDoorWiA
namespace Go.Proofs.YtlgomkilnoehmaaGreatDoor
open Go.RowKit

/-- the first note is delivered, so often. -/
def dl : Nat → Wo → Wo
  | 0, W => W
  | d + 1, W => (dl d W).dlv 0
theorem dlv_nil {W : Wo} (h : W.fl = []) : W.dlv 0 = W := by
  unfold Wo.dlv Wo.flE
  rw [h, if_neg (by simp)]
theorem dl_nil {W : Wo} (h : W.fl = []) : ∀ d, dl d W = W
  | 0 => rfl
  | d + 1 => by rw [dl, dl_nil h d, dlv_nil h]
theorem dl_succ (W : Wo) : ∀ d, dl (d + 1) W = dl d (W.dlv 0)
  | 0 => rfl
  | d + 1 => by rw [dl, dl_succ W d, dl]
theorem dlv_cons {W : Wo} {t : Nf} {l : List Nf} (h : W.fl = t :: l) : W.dlv 0 = W.delivered 0 t := by
  unfold Wo.dlv Wo.flE
  rw [h, if_pos (by rw [if_pos]; simp)]
  rfl
theorem heard_same (W : Wo) (t : Nf) : (W.heard t).nd = W.nd ∧ (W.heard t).fl = W.fl ∧ (W.heard t).ru = W.ru := by
  unfold Wo.heard
  split <;> exact ⟨rfl, rfl, rfl⟩
theorem handed_same (W : Wo) (t : Nf) : (W.handed t).fl = W.fl ∧ (W.handed t).hn = W.hn ∧ (W.handed t).he = W.he ∧ (W.handed t).ru = W.ru := by
  unfold Wo.handed
  split <;> exact ⟨rfl, rfl, rfl, rfl⟩
/-- what the switch knows behind a claim. -/
def swN (n e : Int) (t : Nf) : Int := if e < t.ep then t.fr else n
def swE (e : Int) (t : Nf) : Int := if e < t.ep then t.ep else e
theorem heard_sw (W : Wo) (t : Nf) : (W.heard t).hn = swN W.hn W.he t ∧ (W.heard t).he = swE W.he t := by
  unfold Wo.heard swN swE
  split <;> exact ⟨rfl, rfl⟩
/-- half of a round: node i ticks, and all comes. -/
def half (i : Nat) (W : Wo) : Wo := dl 8 (W.tcd (i : Int))
section
variable {V : Wo} {i : Nat} {x : No}
theorem tcd_up (hi : i < 2) (hx : V.nd i = some x) (hE : x.tkE = 0) : V.tcE (i : Int) = 0 ∧ V.tcd (i : Int) = V.ticked i x := by
  have hup : V.upE (i : Int) = 0 := by unfold Wo.upE; rw [if_pos (by omega), Int.toNat_natCast, hx]; rfl
  exact ⟨by unfold Wo.tcE; rw [if_pos hup, Int.toNat_natCast, hx]; exact hE, by unfold Wo.tcd; rw [if_pos hup, Int.toNat_natCast, hx]⟩
theorem ticked_is (hE : x.tkE = 0) (hf : V.fl = []) {l : List Nf} (hl : x.tickL.map x.tk1.fly = l) (h8 : l.length ≤ 200) : (V.ticked i x).nd = setN V.nd i (some x.tick) ∧ (V.ticked i x).fl = l ∧ (V.ticked i x).hn = V.hn ∧ (V.ticked i x).he = V.he ∧ (V.ticked i x).ru = V.ru := by
  unfold Wo.ticked
  rw [if_pos hE, hl]
  have ht : l.take (200 - V.fl.length) = l := by rw [hf]; exact List.take_of_length_le (by simpa using h8)
  split
  · refine ⟨rfl, ?_, rfl, rfl, rfl⟩
    show V.fl ++ l.take (200 - V.fl.length) = l
    rw [ht, hf]; rfl
  · refine ⟨rfl, ?_, rfl, rfl, rfl⟩
    show V.fl ++ l.take (200 - V.fl.length) = l
    rw [ht, hf]; rfl
/-- nothing is said. -/
theorem half_quiet (hi : i < 2) (hx : V.nd i = some x) (hf : V.fl = []) (hE : x.tkE = 0) (hl : x.tickL.map x.tk1.fly = []) : (half i V).nd = setN V.nd i (some x.tick) ∧ (half i V).fl = [] ∧ (half i V).hn = V.hn ∧ (half i V).he = V.he := by
  have k := ticked_is (i := i) hE hf hl (by simp)
  unfold half
  rw [(tcd_up hi hx hE).2, dl_nil k.2.1]
  exact ⟨k.1, k.2.1, k.2.2.1, k.2.2.2.1⟩
/-- a claim is said. -/
theorem half_claim (hi : i < 2) (hx : V.nd i = some x) (hf : V.fl = []) (hE : x.tkE = 0) {t : Nf} (hc : t.cl = true) (hl : x.tickL.map x.tk1.fly = [t]) : (half i V).nd = setN V.nd i (some x.tick) ∧ (half i V).fl = [] ∧ (half i V).hn = swN V.hn V.he t ∧ (half i V).he = swE V.he t := by
  obtain ⟨k1, k2, k3, k4, k5⟩ := ticked_is (i := i) hE hf hl (by simp)
  unfold half
  rw [(tcd_up hi hx hE).2, dl_succ, dlv_cons k2]
  have e : (V.ticked i x).delivered 0 t = ((V.ticked i x).landed 0).heard t := by unfold Wo.delivered; rw [if_pos hc]
  have hs := heard_same ((V.ticked i x).landed 0) t
  have hw := heard_sw ((V.ticked i x).landed 0) t
  have f1 : ((V.ticked i x).landed 0).fl = [] := by show (V.ticked i x).fl.eraseIdx 0 = []; rw [k2]; rfl
  rw [e, dl_nil (hs.2.1.trans f1)]
  refine ⟨hs.1.trans k1, hs.2.1.trans f1, ?_, ?_⟩
  · rw [hw.1]; show swN (V.ticked i x).hn (V.ticked i x).he t = _; rw [k3, k4]
  · rw [hw.2]; show swE (V.ticked i x).he t = _; rw [k4]
/-- a claim is said, and cells to the other one. -/
theorem half_both (hi : i < 2) (hx : V.nd i = some x) {y : No} (hy : V.nd (1 - i) = some y) (hf : V.fl = []) (hE : x.tkE = 0) {t u : Nf} (hc : t.cl = true) (hu : u.cl = false) (hfr : u.fr = i) (hl : x.tickL.map x.tk1.fly = [t, u]) : (half i V).nd = setN (setN V.nd i (some x.tick)) (1 - i) (some (y.hrd u)) ∧ (half i V).fl = [] ∧ (half i V).hn = swN V.hn V.he t ∧ (half i V).he = swE V.he t := by
  obtain ⟨k1, k2, k3, k4, k5⟩ := ticked_is (i := i) hE hf hl (by simp)
  unfold half
  rw [(tcd_up hi hx hE).2, dl_succ, dlv_cons k2, dl_succ]
  have e : (V.ticked i x).delivered 0 t = ((V.ticked i x).landed 0).heard t := by unfold Wo.delivered; rw [if_pos hc]
  have hs := heard_same ((V.ticked i x).landed 0) t
  have hw := heard_sw ((V.ticked i x).landed 0) t
  have f1 : ((V.ticked i x).landed 0).fl = [u] := by show (V.ticked i x).fl.eraseIdx 0 = [u]; rw [k2]; rfl
  have h1 : (((V.ticked i x).landed 0).heard t).hn = swN V.hn V.he t := by rw [hw.1]; show swN (V.ticked i x).hn (V.ticked i x).he t = _; rw [k3, k4]
  have h2 : (((V.ticked i x).landed 0).heard t).he = swE V.he t := by rw [hw.2]; show swE (V.ticked i x).he t = _; rw [k4]
  have h3 : (((V.ticked i x).landed 0).heard t).nd = setN V.nd i (some x.tick) := hs.1.trans k1
  have h4 : (((V.ticked i x).landed 0).heard t).fl = [u] := hs.2.1.trans f1
  rw [e]
  generalize ((V.ticked i x).landed 0).heard t = U at *
  rw [dlv_cons h4]
  have e2 : U.delivered 0 u = (U.landed 0).handed u := by unfold Wo.delivered; rw [hu, if_neg (by simp)]
  have s2 := handed_same (U.landed 0) u
  have f2 : (U.landed 0).fl = [] := by show U.fl.eraseIdx 0 = []; rw [h4]; rfl
  have hto : (1 - u.fr).toNat = 1 - i := by rw [hfr]; omega
  have hnd : U.nd (1 - i) = some y := by rw [h3, setN_other _ _ (by omega)]; exact hy
  rw [e2, dl_nil (s2.1.trans f2)]
  refine ⟨?_, s2.1.trans f2, ?_, ?_⟩
  · unfold Wo.handed
    rw [hto]
    show (match U.nd (1 - i) with | some z => ({ U.landed 0 with nd := setN U.nd (1 - i) (some (z.hrd u)) } : Wo) | none => U.landed 0).nd = _
    rw [hnd, h3]
  · rw [s2.2.1]; exact h1
  · rw [s2.2.2.1]; exact h2
end
/-- a node without flows, that was told of none. -/
structure Em (i : Nat) (L M n : Int) (x : No) : Prop where
  id : x.id = i
  li : x.life = L
  now : x.now = n
  T : x.T = newT
  mt : x.mt = newT
  ml : x.ml ≤ M
  nd : x.ro.nd = i
theorem tk1_ml (x : No) : x.tk1.ml = x.ml ∧ x.tk1.now = x.now + 1 ∧ x.tk1.life = x.life ∧ x.tk1.mt = x.mt ∧ x.tk1.id = x.id := by
  unfold No.tk1 No.clm
  repeat' split
  all_goals exact ⟨rfl, rfl, rfl, rfl, rfl⟩
theorem takeL_new : ∀ (l : List Tc), (∀ c ∈ l, c.c = noC) → takeL newT l = newT
  | [], _ => rfl
  | c :: l, h => by
    have e : takeT newT c = newT := by
      unfold takeT
      rw [h c (by simp), if_neg]
      show ¬ (0 : Int) < 0
      omega
    show takeL (takeT newT c) l = newT
    rw [e]
    exact takeL_new l (fun d hd => h d (by simp [hd]))
theorem tellT_new (old life : Int) (l : List Tc) (h : ∀ c ∈ l, c.c = noC) : tellT old life newT l = newT := by
  unfold tellT
  split
  · have e : (if old < life then newT else newT) = newT := by split <;> rfl
    rw [e]
    exact takeL_new l h
  · rfl
/-- a standby ticks. -/
theorem Em.sby {i : Nat} {L M n : Int} {x : No} (h : Em i L M n x) (ha : x.ro.ac = false) (hs : x.ro.si ≤ 8) : x.tkE = 0 ∧ Em i L M (n + 1) x.tick ∧ x.tick.ro = ⟨x.ro.nd, x.ro.ep, x.ro.si + 1, false⟩ ∧ x.tickL.map x.tk1.fly = [] := by
  have htk : x.ro.tick = ⟨x.ro.nd, x.ro.ep, x.ro.si + 1, false⟩ := by
    unfold Ro.tick Ro.tickS
    rw [ha, if_neg (by simp), if_pos (by omega)]
  have hring : x.ro.rings = false := by
    unfold Ro.rings Ro.tickS
    rw [ha, if_neg (by simp), if_pos (by omega)]
    exact decide_eq_false (by omega)
  have hE : x.tkE = 0 := by unfold No.tkE; rw [hring]; rfl
  have hk : x.tk1 = x.ticked := by unfold No.tk1; rw [hring]; rfl
  obtain ⟨t1, t2', t3, t4, t5, t6, t7, t8⟩ := tick_tk1 x
  have hT : x.ticked.T = newT := by show expT x.T _ 32 = _; rw [h.T, expT_new]
  have hro : x.tick.ro = ⟨x.ro.nd, x.ro.ep, x.ro.si + 1, false⟩ := by rw [t2', hk]; exact htk
  refine ⟨hE, ⟨?_, ?_, ?_, ?_, ?_, ?_, ?_⟩, hro, ?_⟩
  · rw [t1, hk]; exact h.id
  · rw [t6, hk]; exact h.li
  · rw [t8, hk]; show x.now + 1 = n + 1; rw [h.now]
  · rw [t3, hk]; exact hT
  · rw [t4, hk]; exact h.mt
  · rw [t7, hk]; exact h.ml
  · rw [hro]; exact h.nd
  · have : x.tickL = [] := by
      unfold No.tickL No.notes
      rw [if_pos hE, hk]
      show (if x.ro.tick.ac then _ else []) = _
      rw [htk]
      rfl
    rw [this]
    rfl
/-- an active one ticks. -/
theorem Em.act {i : Nat} {L M n : Int} {x : No} (h : Em i L M n x) (ha : x.ro.ac = true) : x.tkE = 0 ∧ Em i L M (n + 1) x.tick ∧ x.tick.ro = x.ro ∧ (((n + 1) % 3 ≠ 0 ∧ x.tickL.map x.tk1.fly = []) ∨ ((n + 1) % 3 = 0 ∧ ∃ cs : List Tc, cs.length ≤ 8 ∧ (∀ c ∈ cs, okS c = true ∧ c.c = noC) ∧ x.tickL.map x.tk1.fly = [⟨i, L, x.ro.ep, true, []⟩, ⟨i, L, x.ro.ep, false, cs⟩])) := by
  have htk : x.ro.tick = x.ro := by unfold Ro.tick; rw [if_pos ha]
  have hring : x.ro.rings = false := by unfold Ro.rings; rw [if_pos ha]
  have hE : x.tkE = 0 := by unfold No.tkE; rw [hring]; rfl
  have hk : x.tk1 = x.ticked := by unfold No.tk1; rw [hring]; rfl
  obtain ⟨t1, t2', t3, t4, t5, t6, t7, t8⟩ := tick_tk1 x
  have hT : x.ticked.T = newT := by show expT x.T _ 32 = _; rw [h.T, expT_new]
  have hro : x.tick.ro = x.ro := by rw [t2', hk]; exact htk
  refine ⟨hE, ⟨?_, ?_, ?_, ?_, ?_, ?_, ?_⟩, hro, ?_⟩
  · rw [t1, hk]; exact h.id
  · rw [t6, hk]; exact h.li
  · rw [t8, hk]; show x.now + 1 = n + 1; rw [h.now]
  · rw [t3, hk]; exact hT
  · rw [t4, hk]; exact h.mt
  · rw [t7, hk]; exact h.ml
  · rw [hro]; exact h.nd
  · have hacT : x.ticked.ro.ac = true := by show x.ro.tick.ac = true; rw [htk]; exact ha
    have hepT : x.ticked.ro.ep = x.ro.ep := by show x.ro.tick.ep = _; rw [htk]
    have hnow : x.ticked.now = n + 1 := by show x.now + 1 = _; rw [h.now]
    have hL : x.tickL = (if x.ticked.due then [⟨true, []⟩] else []) ++ (if x.ticked.due then [⟨false, nxL x.ticked.T x.ticked.D x.ticked.cu⟩] else []) := by
      unfold No.tickL No.notes
      rw [if_pos hE, hk, if_pos hacT, ha]
      rfl
    by_cases h3 : (n + 1) % 3 = 0
    · have hd : x.ticked.due = true := by unfold No.due; rw [hnow]; exact decide_eq_true h3
      have hsp := nx_spec x.ticked.T x.ticked.D x.ticked.cu
      refine .inr ⟨h3, (nxL x.ticked.T x.ticked.D x.ticked.cu).map (fun (j : Nat) => (⟨(j : Int), x.ticked.T j⟩ : Tc)), by rw [List.length_map, hsp.len]; omega, fun c hc => ?_, ?_⟩
      · obtain ⟨j, hj, rfl⟩ := List.mem_map.1 hc
        have := hsp.lt j hj
        exact ⟨okS_iff.2 ⟨by show (0 : Int) ≤ (j : Int); omega, by show (j : Int) < 32; omega⟩, by show x.ticked.T j = noC; rw [hT]; rfl⟩
      · rw [hL, hd, hk]
        show [x.ticked.fly ⟨true, []⟩, x.ticked.fly ⟨false, nxL x.ticked.T x.ticked.D x.ticked.cu⟩] = _
        unfold No.fly
        rw [show x.ticked.id = i from h.id, show x.ticked.life = L from h.li, hepT]
        rfl
    · have hd : x.ticked.due = false := by unfold No.due; rw [hnow]; exact decide_eq_false h3
      exact .inl ⟨h3, by rw [hL, hd]; rfl⟩
/-- a node hears that there is nothing. -/
theorem Em.hear {i : Nat} {L M n : Int} {x : No} (h : Em i L M n x) {ep : Int} {cs : List Tc} (hi : i < 2) (h1 : 1 ≤ M) (h0 : 0 ≤ ep) (hep : ep ≤ 1073741824) (hc : cs.length ≤ 8) (hcs : ∀ c ∈ cs, okS c = true ∧ c.c = noC) : Em i L M n (x.hrd ⟨((1 - i : Nat) : Int), M, ep, false, cs⟩) ∧ (x.hrd ⟨((1 - i : Nat) : Int), M, ep, false, cs⟩).ro = x.ro.hear ep := by
  have hml := h.ml
  have hte : tellE x.ml M cs = 0 := by
    unfold tellE
    rw [if_neg, if_neg (by omega)]
    rintro (a | a | a)
    · omega
    · omega
    · obtain ⟨c, hm, hq⟩ := List.any_eq_true.1 a
      rw [(hcs c hm).1] at hq
      cases hq
  have he : x.heE ⟨((1 - i : Nat) : Int), M, ep, false, cs⟩ = 0 := by
    unfold No.heE
    rw [if_pos ⟨by show ((1 - i : Nat) : Int) = 1 - x.id; rw [h.id]; omega, h0, hep⟩]
    exact hte
  have hx : x.hrd ⟨((1 - i : Nat) : Int), M, ep, false, cs⟩ = { x with ml := tellLife x.ml M cs, mt := tellT x.ml M x.mt cs, ro := x.ro.hear ep } := by
    unfold No.hrd
    rw [if_pos he]
  rw [hx]
  refine ⟨⟨h.id, h.li, h.now, h.T, ?_, ?_, ?_⟩, rfl⟩
  · show tellT x.ml M x.mt cs = newT
    rw [h.mt]
    exact tellT_new _ _ _ (fun c hm => (hcs c hm).2)
  · show tellLife x.ml M cs ≤ M
    unfold tellLife
    rw [if_pos hte]
    exact Int.le_refl _
  · show (x.ro.hear ep).nd = i
    unfold Ro.hear
    split
    · exact h.nd
    · exact h.nd
end Go.Proofs.YtlgomkilnoehmaaGreatDoor

namespace Go.Proofs.YtlgomkilnoehmaaGreatDoor
open Go.RowKit

theorem Qn.em {i e L : Nat} {Y : By} {j : Nat} {x : No} {M : Int} (h : Qn i e L Y j x) (hm : x.ml ≤ M) : Em i L M j x := ⟨h.ii, h.li, h.now, h.T, h.mt, hm, by rw [h.ro]; unfold roQ; split <;> rfl⟩
theorem Qn.said {i e L : Nat} {Y : By} {j : Nat} {x : No} (h : Qn i e L Y j x) (hj : j ≤ 9) (hE : x.tkE = 0) (h' : Qn i e L Y (j + 1) x.tick) : x.tickL.map x.tk1.fly = if j ≤ 8 then [] else [⟨i, L, (Ro.new i e).nx, true, []⟩] := by
  have sm := tick_same x
  have hT1 := sm.2.2.2.2.2
  have hxa : x.ro.ac = false := by rw [h.ro]; unfold roQ; rw [if_pos hj]
  have hnow : x.tk1.now = ((j + 1 : Nat) : Int) := by rw [(tk1_ml x).2.1, h.now]; omega
  by_cases h9 : j = 9
  · subst h9
    have hro : x.tick.ro = ⟨i, (Ro.new i e).nx, 10, true⟩ := by
      rw [h'.ro]
      unfold roQ
      rw [if_neg (by omega)]
    have hL : x.tickL = [⟨true, []⟩] := by
      unfold No.tickL No.notes
      rw [if_pos hE, ← hT1, hro, hxa]
      have hd : x.tk1.due = false := by unfold No.due; rw [hnow]; decide
      rw [hd]
      rfl
    rw [hL, if_neg (by omega)]
    show [x.tk1.fly ⟨true, []⟩] = _
    unfold No.fly
    rw [sm.2.2.2.2.1, h.ii, (tk1_ml x).2.2.1, h.li, ← hT1, hro]
    rfl
  · have hro : x.tick.ro = ⟨i, (e : Int), ((j + 1 : Nat) : Int), false⟩ := by
      rw [h'.ro]
      unfold roQ
      rw [if_pos (by omega)]
    have hL : x.tickL = [] := by
      unfold No.tickL No.notes
      rw [if_pos hE, ← hT1, hro]
      rfl
    rw [hL, if_pos (by omega)]
    rfl
theorem tick_ml (x : No) : x.tick.ml = x.ml := by rw [(tick_tk1 x).2.2.2.2.2.2.1, (tk1_ml x).1]
/-- what both begin with. -/
structure Bg2 (e L : Nat → Nat) (Y : Nat → By) : Prop where
  be : ∀ i, i < 2 → e i ≤ 5000
  bl : ∀ i, i < 2 → 1 ≤ L i
  p : ∀ i, i < 2 → (putE false (Y i) (Ro.new i (e i)).nx (L i)).1 = 0
def EE (e : Nat → Nat) (i : Nat) : Int := (Ro.new i (e i)).nx
theorem EE_lt (e : Nat → Nat) (i : Nat) : (e i : Int) < EE e i ∧ EE e i ≤ (e i : Int) + 2 := Ro.nx_lt (r := Ro.new i (e i))
theorem EE_par (e : Nat → Nat) {i : Nat} (hi : i < 2) : EE e i % 2 = i := by
  unfold EE Ro.nx Ro.new
  simp only
  split <;> omega
/-- what the switch knows behind a ticks of the first one, b of the other one. -/
def Sw (e : Nat → Nat) (f a b : Nat) (V : Wo) : Prop :=
  (a ≤ 9 ∧ (V.he ≤ e f ∨ V.he ≤ e (1 - f))) ∨
  (a = 10 ∧ b = 9 ∧ ((V.hn = f ∧ V.he = EE e f) ∨ (EE e f ≤ V.he ∧ V.he ≤ e (1 - f)))) ∨
  (10 ≤ b ∧ ((EE e (1 - f) < EE e f ∧ V.hn = f ∧ V.he = EE e f) ∨ (EE e f < EE e (1 - f) ∧ V.hn = ((1 - f : Nat) : Int) ∧ V.he = EE e (1 - f))))
def Pa (e L : Nat → Nat) (Y : Nat → By) (f a b : Nat) (V : Wo) : Prop :=
  ∃ x y, V.nd f = some x ∧ V.nd (1 - f) = some y ∧ V.fl = [] ∧ Qn f (e f) (L f) (Y f) a x ∧ Qn (1 - f) (e (1 - f)) (L (1 - f)) (Y (1 - f)) b y ∧ x.ml ≤ L (1 - f) ∧ y.ml ≤ L f ∧ Sw e f a b V
section
variable {e L : Nat → Nat} {Y : Nat → By} {f a b : Nat} {V : Wo}
/-- a node ticks that has heard nothing: what is said. -/
theorem Qn.half {i j : Nat} {x : No} (B : Bg2 e L Y) (hi : i < 2) (hx : V.nd i = some x) (hf : V.fl = []) (h : Qn i (e i) (L i) (Y i) j x) (hm : x.ml ≤ L (1 - i)) (hj : j ≤ 10) : V.tcE (i : Int) = 0 ∧ ∃ x', (half i V).nd = setN V.nd i (some x') ∧ Qn i (e i) (L i) (Y i) (j + 1) x' ∧ x'.ml ≤ L (1 - i) ∧ (half i V).fl = [] ∧ (half i V).hn = (if j = 9 ∧ V.he < EE e i then (i : Int) else V.hn) ∧ (half i V).he = (if j = 9 ∧ V.he < EE e i then EE e i else V.he) := by
  obtain ⟨hE, h'⟩ := h.tick (by have := B.be i hi; omega) (B.p i hi)
  refine ⟨(tcd_up hi hx hE).1, x.tick, ?_⟩
  have hml : x.tick.ml ≤ L (1 - i) := by rw [tick_ml]; exact hm
  by_cases h9 : j = 9
  · have hs := h.said (by omega) hE h'
    rw [if_neg (by omega)] at hs
    obtain ⟨k1, k2, k3, k4⟩ := half_claim hi hx hf hE rfl hs
    refine ⟨k1, h', hml, k2, ?_, ?_⟩
    · rw [k3]
      unfold swN
      show (if V.he < EE e i then (i : Int) else V.hn) = _
      by_cases q : V.he < EE e i
      · rw [if_pos q, if_pos ⟨h9, q⟩]
      · rw [if_neg q, if_neg (fun z => q z.2)]
    · rw [k4]
      unfold swE
      show (if V.he < EE e i then EE e i else V.he) = _
      by_cases q : V.he < EE e i
      · rw [if_pos q, if_pos ⟨h9, q⟩]
      · rw [if_neg q, if_neg (fun z => q z.2)]
  · have hq : x.tickL.map x.tk1.fly = [] := by
      by_cases h8 : j ≤ 8
      · have hs := h.said (by omega) hE h'
        rw [if_pos h8] at hs
        exact hs
      · have hj10 : j = 10 := by omega
        subst hj10
        have hac : x.ro.ac = true := by rw [h.ro]; rfl
        rcases ((h.em (M := x.ml) (Int.le_refl _)).act hac).2.2.2 with ⟨_, q⟩ | ⟨q, _⟩
        · exact q
        · exact absurd q (by decide)
    obtain ⟨k1, k2, k3, k4⟩ := half_quiet hi hx hf hE hq
    exact ⟨k1, h', hml, k2, by rw [k3, if_neg (fun z => h9 z.1)], by rw [k4, if_neg (fun z => h9 z.1)]⟩
theorem one_one (hf : f < 2) : 1 - (1 - f) = f := by omega
theorem Pa.first (B : Bg2 e L Y) (hf : f < 2) (h : Pa e L Y f a a V) (ha : a ≤ 10) : V.tcE (f : Int) = 0 ∧ Pa e L Y f (a + 1) a (half f V) := by
  obtain ⟨x, y, hx, hy, hfl, qx, qy, mx, my, sw⟩ := h
  obtain ⟨h0, x', n1, q', m', f', s1, s2⟩ := qx.half B hf hx hfl mx ha
  refine ⟨h0, x', y, by rw [n1, setN_same], by rw [n1, setN_other _ _ (by omega)]; exact hy, f', q', qy, m', my, ?_⟩
  have hE := EE_lt e f
  have hE2 := EE_lt e (1 - f)
  unfold Sw at sw ⊢
  rw [s1, s2]
  rcases sw with ⟨a1, a2⟩ | ⟨a1, a2, _⟩ | ⟨a1, a2⟩
  · by_cases h9 : a = 9
    · right; left
      refine ⟨by omega, h9, ?_⟩
      by_cases q : V.he < EE e f
      · rw [if_pos ⟨h9, q⟩, if_pos ⟨h9, q⟩]
        exact .inl ⟨rfl, rfl⟩
      · rw [if_neg (fun z => q z.2), if_neg (fun z => q z.2)]
        exact .inr ⟨by omega, by omega⟩
    · left
      rw [if_neg (fun z => h9 z.1)]
      exact ⟨by omega, a2⟩
  · omega
  · right; right
    rw [if_neg (by omega), if_neg (by omega)]
    exact ⟨a1, a2⟩
theorem Pa.other (B : Bg2 e L Y) (hf : f < 2) (h : Pa e L Y f (a + 1) a V) (ha : a ≤ 10) : V.tcE ((1 - f : Nat) : Int) = 0 ∧ Pa e L Y f (a + 1) (a + 1) (half (1 - f) V) := by
  obtain ⟨x, y, hx, hy, hfl, qx, qy, mx, my, sw⟩ := h
  have my' : y.ml ≤ L (1 - (1 - f)) := by rw [one_one hf]; exact my
  obtain ⟨h0, y', n1, q', m', f', s1, s2⟩ := qy.half B (by omega) hy hfl my' ha
  rw [one_one hf] at m'
  refine ⟨h0, x, y', by rw [n1, setN_other _ _ (by omega)]; exact hx, by rw [n1, setN_same], f', qx, q', mx, m', ?_⟩
  have hE := EE_lt e f
  have hE2 := EE_lt e (1 - f)
  have p1 := EE_par e hf
  have p2 := EE_par e (i := 1 - f) (by omega)
  unfold Sw at sw ⊢
  rw [s1, s2]
  rcases sw with ⟨a1, a2⟩ | ⟨a1, a2, a3⟩ | ⟨a1, a2⟩
  · left
    rw [if_neg (by omega)]
    exact ⟨a1, a2⟩
  · right; right
    refine ⟨by omega, ?_⟩
    by_cases q : V.he < EE e (1 - f)
    · rw [if_pos ⟨a2, q⟩, if_pos ⟨a2, q⟩]
      by_cases g : EE e f < EE e (1 - f)
      · exact .inr ⟨g, rfl, rfl⟩
      · rcases a3 with ⟨b1, b2⟩ | ⟨b1, b2⟩ <;> omega
    · rw [if_neg (fun z => q z.2), if_neg (fun z => q z.2)]
      rcases a3 with ⟨b1, b2⟩ | ⟨b1, b2⟩
      · exact .inl ⟨by omega, b1, b2⟩
      · omega
  · right; right
    rw [if_neg (by omega), if_neg (by omega)]
    exact ⟨by omega, a2⟩
/-- one is active, the other one stands by and hears it. -/
def Pe (Lg Ls : Int) (g : Nat) (E : Int) (last : Bool) (n m : Int) (V : Wo) : Prop :=
  ∃ x y, V.nd g = some x ∧ V.nd (1 - g) = some y ∧ V.fl = [] ∧ Em g Lg Ls n x ∧ Em (1 - g) Ls Lg m y ∧ x.ro.ac = true ∧ x.ro.ep = E ∧ y.ro.ac = false ∧ y.ro.ep = E ∧ y.ro.si ≤ n % 3 + (if last then 0 else 1) ∧ V.hn = g ∧ V.he = E
theorem hear_same {r : Ro} {E : Int} (he : r.ep = E) (ha : r.ac = false) (h0 : 0 ≤ E) (h1 : E ≤ 1073741824) : r.hear E = ⟨r.nd, E, 0, false⟩ := by
  have hh : r.heard E = true := by
    unfold Ro.heard
    rw [isEpR_iff.2 ⟨h0, h1⟩, decide_eq_false (by omega)]
    rfl
  unfold Ro.hear
  rw [if_pos hh, ha]
  rfl
theorem hear_more {r : Ro} {E : Int} (he : r.ep < E) (h0 : 0 ≤ E) (h1 : E ≤ 1073741824) : r.hear E = ⟨r.nd, E, 0, false⟩ := by
  have hh : r.heard E = true := by
    unfold Ro.heard
    rw [isEpR_iff.2 ⟨h0, h1⟩, decide_eq_false (by omega)]
    rfl
  unfold Ro.hear
  rw [if_pos hh, decide_eq_true he, Bool.not_true, Bool.and_false]
theorem hear_less {r : Ro} {E : Int} (he : E < r.ep) : r.hear E = r := by
  unfold Ro.hear Ro.heard
  rw [decide_eq_true he, Bool.not_true, Bool.and_false]
  rfl
theorem Pe.big {Lg Ls : Int} {g : Nat} {E n m : Int} (hg : g < 2) (hL : 1 ≤ Lg) (h0 : 0 ≤ E) (h1 : E ≤ 1073741824) (h : Pe Lg Ls g E false n m V) : V.tcE (g : Int) = 0 ∧ Pe Lg Ls g E true (n + 1) m (half g V) := by
  obtain ⟨x, y, hx, hy, hf, ex, ey, xa, xe, ya, ye, ys, sn, se⟩ := h
  have ys' : y.ro.si ≤ n % 3 + 1 := ys
  obtain ⟨hE, ex', hro, hs⟩ := ex.act xa
  refine ⟨(tcd_up hg hx hE).1, ?_⟩
  rcases hs with ⟨q, hs⟩ | ⟨q, cs, c8, cok, hs⟩
  · obtain ⟨k1, k2, k3, k4⟩ := half_quiet hg hx hf hE hs
    refine ⟨x.tick, y, by rw [k1, setN_same], by rw [k1, setN_other _ _ (by omega)]; exact hy, k2, ex', ey, by rw [hro]; exact xa, by rw [hro]; exact xe, ya, ye, ?_, by rw [k3]; exact sn, by rw [k4]; exact se⟩
    show y.ro.si ≤ (n + 1) % 3 + 0
    omega
  · obtain ⟨k1, k2, k3, k4⟩ := half_both hg hx hy hf hE (u := ⟨g, Lg, x.ro.ep, false, cs⟩) rfl rfl rfl hs
    have hh := ey.hear (ep := x.ro.ep) (cs := cs) (by omega) hL (by omega) (by omega) c8 cok
    rw [one_one hg] at hh
    rw [xe] at hh
    refine ⟨x.tick, y.hrd ⟨g, Lg, x.ro.ep, false, cs⟩, by rw [k1, setN_other _ _ (by omega), setN_same], by rw [k1, setN_same], k2, ex', by rw [xe]; exact hh.1, by rw [hro]; exact xa, by rw [hro]; exact xe, ?_, ?_, ?_, ?_, ?_⟩
    · rw [xe, hh.2, hear_same ye ya h0 h1]
    · rw [xe, hh.2, hear_same ye ya h0 h1]
    · rw [xe, hh.2, hear_same ye ya h0 h1]
      show (0 : Int) ≤ (n + 1) % 3 + 0
      omega
    · rw [k3, xe]
      unfold swN
      rw [if_neg (by show ¬ V.he < E; omega)]
      exact sn
    · rw [k4, xe]
      unfold swE
      rw [if_neg (by show ¬ V.he < E; omega)]
      exact se
theorem Pe.small {Lg Ls : Int} {g : Nat} {E n m : Int} (hg : g < 2) (h : Pe Lg Ls g E true n m V) : V.tcE ((1 - g : Nat) : Int) = 0 ∧ Pe Lg Ls g E false n (m + 1) (half (1 - g) V) := by
  obtain ⟨x, y, hx, hy, hf, ex, ey, xa, xe, ya, ye, ys, sn, se⟩ := h
  have ys' : y.ro.si ≤ n % 3 + 0 := ys
  obtain ⟨hE, ey', hro, hs⟩ := ey.sby ya (by omega)
  refine ⟨(tcd_up (by omega) hy hE).1, ?_⟩
  obtain ⟨k1, k2, k3, k4⟩ := half_quiet (by omega) hy hf hE hs
  refine ⟨x, y.tick, by rw [k1, setN_other _ _ (by omega)]; exact hx, by rw [k1, setN_same], k2, ex, ey', xa, xe, by rw [hro], by rw [hro]; exact ye, ?_, by rw [k3]; exact sn, by rw [k4]; exact se⟩
  rw [hro]
  show y.ro.si + 1 ≤ n % 3 + 1
  omega
/-- behind the first one's twelfth tick. -/
def Pm (e L : Nat → Nat) (f : Nat) (V : Wo) : Prop :=
  (EE e (1 - f) < EE e f ∧ Pe (L f) (L (1 - f)) f (EE e f) true 12 11 V) ∨
  (EE e f < EE e (1 - f) ∧ ∃ x y, V.nd f = some x ∧ V.nd (1 - f) = some y ∧ V.fl = [] ∧ Em f (L f) (L (1 - f)) 12 x ∧ Em (1 - f) (L (1 - f)) (L f) 11 y ∧ x.ro.ac = true ∧ x.ro.ep = EE e f ∧ y.ro.ac = true ∧ y.ro.ep = EE e (1 - f) ∧ V.hn = ((1 - f : Nat) : Int) ∧ V.he = EE e (1 - f))
theorem Pa.mid (B : Bg2 e L Y) (hf : f < 2) (h : Pa e L Y f 11 11 V) : V.tcE (f : Int) = 0 ∧ Pm e L f (half f V) := by
  obtain ⟨x, y, hx, hy, hfl, qx, qy, mx, my, sw⟩ := h
  have hE := EE_lt e f
  have hE2 := EE_lt e (1 - f)
  have b1 := B.be f hf
  have b2 := B.be (1 - f) (by omega)
  have l1 := B.bl f hf
  have l2 := B.bl (1 - f) (by omega)
  have xro : x.ro = ⟨f, EE e f, 10, true⟩ := qx.ro
  have yro : y.ro = ⟨((1 - f : Nat) : Int), EE e (1 - f), 10, true⟩ := qy.ro
  have ex := qx.em mx
  have ey := qy.em my
  have xa : x.ro.ac = true := by rw [xro]
  have xe : x.ro.ep = EE e f := by rw [xro]
  obtain ⟨hE0, ex', hro, hs⟩ := ex.act xa
  refine ⟨(tcd_up hf hx hE0).1, ?_⟩
  rcases hs with ⟨q, _⟩ | ⟨_, cs, c8, cok, hs⟩
  · exact absurd (by decide) q
  obtain ⟨k1, k2, k3, k4⟩ := half_both hf hx hy hfl hE0 (u := ⟨f, L f, x.ro.ep, false, cs⟩) rfl rfl rfl hs
  have hh := ey.hear (ep := x.ro.ep) (cs := cs) (by omega) (by omega) (by omega) (by omega) c8 cok
  rw [one_one hf] at hh
  rw [xe] at hh
  have ex2 : Em f (L f) (L (1 - f)) 12 x.tick := ex'
  rw [xe] at k1 k3 k4
  unfold Sw at sw
  rcases sw with ⟨a1, _⟩ | ⟨a1, _⟩ | ⟨_, sw⟩
  · omega
  · omega
  rcases sw with ⟨g, sn, se⟩ | ⟨g, sn, se⟩
  · refine .inl ⟨g, x.tick, y.hrd ⟨f, L f, EE e f, false, cs⟩, by rw [k1, setN_other _ _ (by omega), setN_same], by rw [k1, setN_same], k2, ex2, hh.1, by rw [hro]; exact xa, by rw [hro]; exact xe, ?_, ?_, ?_, ?_, ?_⟩
    · rw [hh.2, yro, hear_more (by show EE e (1 - f) < EE e f; exact g) (by omega) (by omega)]
    · rw [hh.2, yro, hear_more (by show EE e (1 - f) < EE e f; exact g) (by omega) (by omega)]
    · rw [hh.2, yro, hear_more (by show EE e (1 - f) < EE e f; exact g) (by omega) (by omega)]
      show (0 : Int) ≤ 12 % 3 + 0
      decide
    · rw [k3]; unfold swN; rw [if_neg (by show ¬ V.he < EE e f; omega)]; exact sn
    · rw [k4]; unfold swE; rw [if_neg (by show ¬ V.he < EE e f; omega)]; exact se
  · refine .inr ⟨g, x.tick, y.hrd ⟨f, L f, EE e f, false, cs⟩, by rw [k1, setN_other _ _ (by omega), setN_same], by rw [k1, setN_same], k2, ex2, hh.1, by rw [hro]; exact xa, by rw [hro]; exact xe, ?_, ?_, ?_, ?_⟩
    · rw [hh.2, hear_less (by rw [yro]; exact g), yro]
    · rw [hh.2, hear_less (by rw [yro]; exact g), yro]
    · rw [k3]; unfold swN; rw [if_neg (by show ¬ V.he < EE e f; omega)]; exact sn
    · rw [k4]; unfold swE; rw [if_neg (by show ¬ V.he < EE e f; omega)]; exact se
theorem Pm.other (B : Bg2 e L Y) (hf : f < 2) (h : Pm e L f V) : V.tcE ((1 - f : Nat) : Int) = 0 ∧ ((EE e (1 - f) < EE e f ∧ Pe (L f) (L (1 - f)) f (EE e f) false 12 12 (half (1 - f) V)) ∨ (EE e f < EE e (1 - f) ∧ Pe (L (1 - f)) (L f) (1 - f) (EE e (1 - f)) true 12 12 (half (1 - f) V))) := by
  have hE := EE_lt e f
  have hE2 := EE_lt e (1 - f)
  have b1 := B.be f hf
  have b2 := B.be (1 - f) (by omega)
  have l1 := B.bl f hf
  have l2 := B.bl (1 - f) (by omega)
  rcases h with ⟨g, h⟩ | ⟨g, x, y, hx, hy, hfl, ex, ey, xa, xe, ya, ye, sn, se⟩
  · have k := h.small hf
    exact ⟨k.1, .inl ⟨g, k.2⟩⟩
  · obtain ⟨hE0, ey', hro, hs⟩ := ey.act ya
    refine ⟨(tcd_up (by omega) hy hE0).1, .inr ⟨g, ?_⟩⟩
    rcases hs with ⟨q, _⟩ | ⟨_, cs, c8, cok, hs⟩
    · exact absurd (by decide) q
    have hx' : V.nd (1 - (1 - f)) = some x := by rw [one_one hf]; exact hx
    obtain ⟨k1, k2, k3, k4⟩ := half_both (by omega) hy hx' hfl hE0 (u := ⟨((1 - f : Nat) : Int), L (1 - f), y.ro.ep, false, cs⟩) rfl rfl rfl hs
    have hh := ex.hear (ep := y.ro.ep) (cs := cs) hf (by omega) (by omega) (by omega) c8 cok
    rw [ye] at hh k1 k3 k4
    have xr : x.ro.hear (EE e (1 - f)) = ⟨x.ro.nd, EE e (1 - f), 0, false⟩ := hear_more (by rw [xe]; exact g) (by omega) (by omega)
    have ey2 : Em (1 - f) (L (1 - f)) (L f) 12 y.tick := ey'
    unfold Pe
    rw [one_one hf] at k1 ⊢
    refine ⟨y.tick, x.hrd ⟨((1 - f : Nat) : Int), L (1 - f), EE e (1 - f), false, cs⟩, by rw [k1, setN_other _ _ (by omega), setN_same], by rw [k1, setN_same], k2, ey2, hh.1, by rw [hro]; exact ya, by rw [hro]; exact ye, ?_, ?_, ?_, ?_, ?_⟩
    · rw [hh.2, xr]
    · rw [hh.2, xr]
    · rw [hh.2, xr]
      show (0 : Int) ≤ 12 % 3 + 0
      decide
    · rw [k3]; unfold swN; rw [if_neg (by show ¬ V.he < EE e (1 - f); omega)]; exact sn
    · rw [k4]; unfold swE; rw [if_neg (by show ¬ V.he < EE e (1 - f); omega)]; exact se
end
/-- behind so many halves of rounds. -/
def PO (e L : Nat → Nat) (Y : Nat → By) (f h : Nat) (V : Wo) : Prop :=
  (h ≤ 22 ∧ Pa e L Y f ((h + 1) / 2) (h / 2) V) ∨ (h = 23 ∧ Pm e L f V) ∨
  (24 ≤ h ∧ ((EE e (1 - f) < EE e f ∧ Pe (L f) (L (1 - f)) f (EE e f) (decide (h % 2 = 1)) ((h + 1) / 2 : Nat) (h / 2 : Nat) V) ∨ (EE e f < EE e (1 - f) ∧ Pe (L (1 - f)) (L f) (1 - f) (EE e (1 - f)) (decide (h % 2 = 0)) (h / 2 : Nat) ((h + 1) / 2 : Nat) V)))
def who (f h : Nat) : Nat := if h % 2 = 0 then f else 1 - f
theorem PO.step {e L : Nat → Nat} {Y : Nat → By} {f h : Nat} {V : Wo} (B : Bg2 e L Y) (hf : f < 2) (p : PO e L Y f h V) : V.tcE (who f h : Int) = 0 ∧ PO e L Y f (h + 1) (half (who f h) V) := by
  have hE := EE_lt e f
  have hE2 := EE_lt e (1 - f)
  have b1 := B.be f hf
  have b2 := B.be (1 - f) (by omega)
  have l1 := B.bl f hf
  have l2 := B.bl (1 - f) (by omega)
  unfold who
  rcases p with ⟨h1, p⟩ | ⟨rfl, p⟩ | ⟨h1, p⟩
  · by_cases he : h % 2 = 0
    · rw [if_pos he]
      by_cases h22 : h = 22
      · subst h22
        have k := p.mid B hf
        exact ⟨k.1, .inr (.inl ⟨rfl, k.2⟩)⟩
      · have e1 : (h + 1) / 2 = h / 2 := by omega
        rw [e1] at p
        have k := p.first B hf (by omega)
        refine ⟨k.1, .inl ⟨by omega, ?_⟩⟩
        have e2 : (h + 1 + 1) / 2 = h / 2 + 1 := by omega
        rw [e2, e1]
        exact k.2
    · rw [if_neg he]
      have e1 : (h + 1) / 2 = h / 2 + 1 := by omega
      rw [e1] at p
      have k := p.other B hf (by omega)
      refine ⟨k.1, .inl ⟨by omega, ?_⟩⟩
      have e2 : (h + 1 + 1) / 2 = h / 2 + 1 := by omega
      rw [e2, e1]
      exact k.2
  · rw [if_neg (by omega)]
    have k := p.other B hf
    refine ⟨k.1, .inr (.inr ⟨by omega, ?_⟩)⟩
    exact k.2
  · rcases p with ⟨g, p⟩ | ⟨g, p⟩
    · by_cases he : h % 2 = 0
      · rw [if_pos he]
        rw [decide_eq_false (by omega)] at p
        have k := p.big hf (by omega) (by omega) (by omega)
        refine ⟨k.1, .inr (.inr ⟨by omega, .inl ⟨g, ?_⟩⟩)⟩
        rw [decide_eq_true (by omega)]
        have e1 : (((h + 1 + 1) / 2 : Nat) : Int) = ((h + 1) / 2 : Nat) + 1 := by omega
        have e2 : (h + 1) / 2 = h / 2 := by omega
        rw [e1]
        have := k.2
        rw [show (h + 1) / 2 = h / 2 from e2] at this ⊢
        exact this
      · rw [if_neg he]
        rw [decide_eq_true (by omega)] at p
        have k := p.small hf
        refine ⟨k.1, .inr (.inr ⟨by omega, .inl ⟨g, ?_⟩⟩)⟩
        rw [decide_eq_false (by omega)]
        have e1 : (h + 1 + 1) / 2 = (h + 1) / 2 := by omega
        have e2 : (((h + 1) / 2 : Nat) : Int) = (h / 2 : Nat) + 1 := by omega
        have := k.2
        rw [e1]
        rw [← e2] at this
        exact this
    · by_cases he : h % 2 = 0
      · rw [if_pos he]
        rw [decide_eq_true he] at p
        have k := p.small (by omega)
        rw [one_one hf] at k
        refine ⟨k.1, .inr (.inr ⟨by omega, .inr ⟨g, ?_⟩⟩)⟩
        rw [decide_eq_false (by omega)]
        have e1 : (((h + 1 + 1) / 2 : Nat) : Int) = ((h + 1) / 2 : Nat) + 1 := by omega
        have e2 : (h + 1) / 2 = h / 2 := by omega
        have := k.2
        rw [e1]
        rw [e2] at this ⊢
        exact this
      · rw [if_neg he]
        rw [decide_eq_false he] at p
        have k := p.big (by omega) (by omega) (by omega) (by omega)
        refine ⟨k.1, .inr (.inr ⟨by omega, .inr ⟨g, ?_⟩⟩)⟩
        rw [decide_eq_true (by omega)]
        have e1 : (h + 1 + 1) / 2 = (h + 1) / 2 := by omega
        have e2 : (((h + 1) / 2 : Nat) : Int) = (h / 2 : Nat) + 1 := by omega
        have := k.2
        rw [e1]
        rw [← e2] at this
        exact this
/-- behind all: just one is active, and the switch knows it. -/
theorem PO.fin {e L : Nat → Nat} {Y : Nat → By} {f : Nat} {V : Wo} (hf : f < 2) (p : PO e L Y f 48 V) : ∃ g x y, g < 2 ∧ V.nd g = some x ∧ V.nd (1 - g) = some y ∧ x.ro.ac = true ∧ y.ro.ac = false ∧ V.hn = ((g : Nat) : Int) ∧ V.he = x.ro.ep ∧ V.he ≠ 0 := by
  have hE := EE_lt e f
  have hE2 := EE_lt e (1 - f)
  rcases p with ⟨h1, _⟩ | ⟨h1, _⟩ | ⟨_, ⟨g, x, y, hx, hy, _, _, _, xa, xe, ya, _, _, sn, se⟩ | ⟨g, x, y, hx, hy, _, _, _, xa, xe, ya, _, _, sn, se⟩⟩
  · omega
  · omega
  · exact ⟨f, x, y, hf, hx, hy, xa, ya, sn, by rw [se, xe], by omega⟩
  · exact ⟨1 - f, x, y, by omega, hx, hy, xa, ya, sn, by rw [se, xe], by omega⟩
end Go.Proofs.YtlgomkilnoehmaaGreatDoor
