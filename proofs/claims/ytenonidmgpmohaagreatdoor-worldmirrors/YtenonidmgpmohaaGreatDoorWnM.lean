/-
  Two nodes that are up anew and tick in turn, and all comes at once: what each half of a round makes of them.
-/
import Derived.Test.YtenonidmgpmohaaGreatDoorWiA
namespace Go.Proofs.YtenonidmgpmohaaGreatDoor
open Go.RowKit

/-- the first note is delivered, so often. -/
def dl : Nat → Wo → Wo
  | 0, W => W
  | d + 1, W => (dl d W).dlv 0
theorem dlv_nil {W : Wo} (h : W.fl = []) : W.dlv 0 = W := by
  unfold Wo.dlv Wo.flE
  rw [h, if_neg (by simp)]
theorem dl_nil {W : Wo} (h : W.fl = []) : ∀ d, dl d W = W
  | 0 => rfl
  | d + 1 => by rw [dl, dl_nil h d, dlv_nil h]
theorem dl_succ (W : Wo) : ∀ d, dl (d + 1) W = dl d (W.dlv 0)
  | 0 => rfl
  | d + 1 => by rw [dl, dl_succ W d, dl]
theorem dlv_cons {W : Wo} {t : Nf} {l : List Nf} (h : W.fl = t :: l) : W.dlv 0 = W.delivered 0 t := by
  unfold Wo.dlv Wo.flE
  rw [h, if_pos (by rw [if_pos]; simp)]
  rfl
theorem heard_same (W : Wo) (t : Nf) : (W.heard t).nd = W.nd ∧ (W.heard t).fl = W.fl ∧ (W.heard t).ru = W.ru := by
  unfold Wo.heard
  split <;> exact ⟨rfl, rfl, rfl⟩
theorem handed_same (W : Wo) (t : Nf) : (W.handed t).fl = W.fl ∧ (W.handed t).hn = W.hn ∧ (W.handed t).he = W.he ∧ (W.handed t).ru = W.ru := by
  unfold Wo.handed
  split <;> exact ⟨rfl, rfl, rfl, rfl⟩
/-- what the switch knows behind a claim. -/
def swN (n e : Int) (t : Nf) : Int := if e < t.ep then t.fr else n
def swE (e : Int) (t : Nf) : Int := if e < t.ep then t.ep else e
theorem heard_sw (W : Wo) (t : Nf) : (W.heard t).hn = swN W.hn W.he t ∧ (W.heard t).he = swE W.he t := by
  unfold Wo.heard swN swE
  split <;> exact ⟨rfl, rfl⟩
/-- half of a round: node i ticks, and all comes. -/
def half (i : Nat) (W : Wo) : Wo := dl 8 (W.tcd (i : Int))
section
variable {V : Wo} {i : Nat} {x : No}
theorem tcd_up (hi : i < 2) (hx : V.nd i = some x) (hE : x.tkE = 0) : V.tcE (i : Int) = 0 ∧ V.tcd (i : Int) = V.ticked i x := by
  have hup : V.upE (i : Int) = 0 := by unfold Wo.upE; rw [if_pos (by omega), Int.toNat_natCast, hx]; rfl
  exact ⟨by unfold Wo.tcE; rw [if_pos hup, Int.toNat_natCast, hx]; exact hE, by unfold Wo.tcd; rw [if_pos hup, Int.toNat_natCast, hx]⟩
theorem ticked_is (hE : x.tkE = 0) (hf : V.fl = []) {l : List Nf} (hl : x.tickL.map x.tk1.fly = l) (h8 : l.length ≤ 200) : (V.ticked i x).nd = setN V.nd i (some x.tick) ∧ (V.ticked i x).fl = l ∧ (V.ticked i x).hn = V.hn ∧ (V.ticked i x).he = V.he ∧ (V.ticked i x).ru = V.ru := by
  unfold Wo.ticked
  rw [if_pos hE, hl]
  have ht : l.take (200 - V.fl.length) = l := by rw [hf]; exact List.take_of_length_le (by simpa using h8)
  split
  · refine ⟨rfl, ?_, rfl, rfl, rfl⟩
    show V.fl ++ l.take (200 - V.fl.length) = l
    rw [ht, hf]; rfl
  · refine ⟨rfl, ?_, rfl, rfl, rfl⟩
    show V.fl ++ l.take (200 - V.fl.length) = l
    rw [ht, hf]; rfl
/-- nothing is said. -/
theorem half_quiet (hi : i < 2) (hx : V.nd i = some x) (hf : V.fl = []) (hE : x.tkE = 0) (hl : x.tickL.map x.tk1.fly = []) : (half i V).nd = setN V.nd i (some x.tick) ∧ (half i V).fl = [] ∧ (half i V).hn = V.hn ∧ (half i V).he = V.he := by
  have k := ticked_is (i := i) hE hf hl (by simp)
  unfold half
  rw [(tcd_up hi hx hE).2, dl_nil k.2.1]
  exact ⟨k.1, k.2.1, k.2.2.1, k.2.2.2.1⟩
/-- a claim is said. -/
theorem half_claim (hi : i < 2) (hx : V.nd i = some x) (hf : V.fl = []) (hE : x.tkE = 0) {t : Nf} (hc : t.cl = true) (hl : x.tickL.map x.tk1.fly = [t]) : (half i V).nd = setN V.nd i (some x.tick) ∧ (half i V).fl = [] ∧ (half i V).hn = swN V.hn V.he t ∧ (half i V).he = swE V.he t := by
  obtain ⟨k1, k2, k3, k4, k5⟩ := ticked_is (i := i) hE hf hl (by simp)
  unfold half
  rw [(tcd_up hi hx hE).2, dl_succ, dlv_cons k2]
  have e : (V.ticked i x).delivered 0 t = ((V.ticked i x).landed 0).heard t := by unfold Wo.delivered; rw [if_pos hc]
  have hs := heard_same ((V.ticked i x).landed 0) t
  have hw := heard_sw ((V.ticked i x).landed 0) t
  have f1 : ((V.ticked i x).landed 0).fl = [] := by show (V.ticked i x).fl.eraseIdx 0 = []; rw [k2]; rfl
  rw [e, dl_nil (hs.2.1.trans f1)]
  refine ⟨hs.1.trans k1, hs.2.1.trans f1, ?_, ?_⟩
  · rw [hw.1]; show swN (V.ticked i x).hn (V.ticked i x).he t = _; rw [k3, k4]
  · rw [hw.2]; show swE (V.ticked i x).he t = _; rw [k4]
/-- a claim is said, and cells to the other one. -/
theorem half_both (hi : i < 2) (hx : V.nd i = some x) {y : No} (hy : V.nd (1 - i) = some y) (hf : V.fl = []) (hE : x.tkE = 0) {t u : Nf} (hc : t.cl = true) (hu : u.cl = false) (hfr : u.fr = i) (hl : x.tickL.map x.tk1.fly = [t, u]) : (half i V).nd = setN (setN V.nd i (some x.tick)) (1 - i) (some (y.hrd u)) ∧ (half i V).fl = [] ∧ (half i V).hn = swN V.hn V.he t ∧ (half i V).he = swE V.he t := by
  obtain ⟨k1, k2, k3, k4, k5⟩ := ticked_is (i := i) hE hf hl (by simp)
  unfold half
  rw [(tcd_up hi hx hE).2, dl_succ, dlv_cons k2, dl_succ]
  have e : (V.ticked i x).delivered 0 t = ((V.ticked i x).landed 0).heard t := by unfold Wo.delivered; rw [if_pos hc]
  have hs := heard_same ((V.ticked i x).landed 0) t
  have hw := heard_sw ((V.ticked i x).landed 0) t
  have f1 : ((V.ticked i x).landed 0).fl = [u] := by show (V.ticked i x).fl.eraseIdx 0 = [u]; rw [k2]; rfl
  have h1 : (((V.ticked i x).landed 0).heard t).hn = swN V.hn V.he t := by rw [hw.1]; show swN (V.ticked i x).hn (V.ticked i x).he t = _; rw [k3, k4]
  have h2 : (((V.ticked i x).landed 0).heard t).he = swE V.he t := by rw [hw.2]; show swE (V.ticked i x).he t = _; rw [k4]
  have h3 : (((V.ticked i x).landed 0).heard t).nd = setN V.nd i (some x.tick) := hs.1.trans k1
  have h4 : (((V.ticked i x).landed 0).heard t).fl = [u] := hs.2.1.trans f1
  rw [e]
  generalize ((V.ticked i x).landed 0).heard t = U at *
  rw [dlv_cons h4]
  have e2 : U.delivered 0 u = (U.landed 0).handed u := by unfold Wo.delivered; rw [hu, if_neg (by simp)]
  have s2 := handed_same (U.landed 0) u
  have f2 : (U.landed 0).fl = [] := by show U.fl.eraseIdx 0 = []; rw [h4]; rfl
  have hto : (1 - u.fr).toNat = 1 - i := by rw [hfr]; omega
  have hnd : U.nd (1 - i) = some y := by rw [h3, setN_other _ _ (by omega)]; exact hy
  rw [e2, dl_nil (s2.1.trans f2)]
  refine ⟨?_, s2.1.trans f2, ?_, ?_⟩
  · unfold Wo.handed
    rw [hto]
    show (match U.nd (1 - i) with | some z => ({ U.landed 0 with nd := setN U.nd (1 - i) (some (z.hrd u)) } : Wo) | none => U.landed 0).nd = _
    rw [hnd, h3]
  · rw [s2.2.1]; exact h1
  · rw [s2.2.2.1]; exact h2
end
/-- a node without flows, that was told of none. -/
structure Em (i : Nat) (L M n : Int) (x : No) : Prop where
  id : x.id = i
  li : x.life = L
  now : x.now = n
  T : x.T = newT
  mt : x.mt = newT
  ml : x.ml ≤ M
  nd : x.ro.nd = i
theorem tk1_ml (x : No) : x.tk1.ml = x.ml ∧ x.tk1.now = x.now + 1 ∧ x.tk1.life = x.life ∧ x.tk1.mt = x.mt ∧ x.tk1.id = x.id := by
  unfold No.tk1 No.clm
  repeat' split
  all_goals exact ⟨rfl, rfl, rfl, rfl, rfl⟩
theorem takeL_new : ∀ (l : List Tc), (∀ c ∈ l, c.c = noC) → takeL newT l = newT
  | [], _ => rfl
  | c :: l, h => by
    have e : takeT newT c = newT := by
      unfold takeT
      rw [h c (by simp), if_neg]
      show ¬ (0 : Int) < 0
      omega
    show takeL (takeT newT c) l = newT
    rw [e]
    exact takeL_new l (fun d hd => h d (by simp [hd]))
theorem tellT_new (old life : Int) (l : List Tc) (h : ∀ c ∈ l, c.c = noC) : tellT old life newT l = newT := by
  unfold tellT
  split
  · have e : (if old < life then newT else newT) = newT := by split <;> rfl
    rw [e]
    exact takeL_new l h
  · rfl
/-- a standby ticks. -/
theorem Em.sby {i : Nat} {L M n : Int} {x : No} (h : Em i L M n x) (ha : x.ro.ac = false) (hs : x.ro.si ≤ 8) : x.tkE = 0 ∧ Em i L M (n + 1) x.tick ∧ x.tick.ro = ⟨x.ro.nd, x.ro.ep, x.ro.si + 1, false⟩ ∧ x.tickL.map x.tk1.fly = [] := by
  have htk : x.ro.tick = ⟨x.ro.nd, x.ro.ep, x.ro.si + 1, false⟩ := by
    unfold Ro.tick Ro.tickS
    rw [ha, if_neg (by simp), if_pos (by omega)]
  have hring : x.ro.rings = false := by
    unfold Ro.rings Ro.tickS
    rw [ha, if_neg (by simp), if_pos (by omega)]
    exact decide_eq_false (by omega)
  have hE : x.tkE = 0 := by unfold No.tkE; rw [hring]; rfl
  have hk : x.tk1 = x.ticked := by unfold No.tk1; rw [hring]; rfl
  obtain ⟨t1, t2', t3, t4, t5, t6, t7, t8⟩ := tick_tk1 x
  have hT : x.ticked.T = newT := by show expT x.T _ 32 = _; rw [h.T, expT_new]
  have hro : x.tick.ro = ⟨x.ro.nd, x.ro.ep, x.ro.si + 1, false⟩ := by rw [t2', hk]; exact htk
  refine ⟨hE, ⟨?_, ?_, ?_, ?_, ?_, ?_, ?_⟩, hro, ?_⟩
  · rw [t1, hk]; exact h.id
  · rw [t6, hk]; exact h.li
  · rw [t8, hk]; show x.now + 1 = n + 1; rw [h.now]
  · rw [t3, hk]; exact hT
  · rw [t4, hk]; exact h.mt
  · rw [t7, hk]; exact h.ml
  · rw [hro]; exact h.nd
  · have : x.tickL = [] := by
      unfold No.tickL No.notes
      rw [if_pos hE, hk]
      show (if x.ro.tick.ac then _ else []) = _
      rw [htk]
      rfl
    rw [this]
    rfl
/-- an active one ticks. -/
theorem Em.act {i : Nat} {L M n : Int} {x : No} (h : Em i L M n x) (ha : x.ro.ac = true) : x.tkE = 0 ∧ Em i L M (n + 1) x.tick ∧ x.tick.ro = x.ro ∧ (((n + 1) % 3 ≠ 0 ∧ x.tickL.map x.tk1.fly = []) ∨ ((n + 1) % 3 = 0 ∧ ∃ cs : List Tc, cs.length ≤ 8 ∧ (∀ c ∈ cs, okS c = true ∧ c.c = noC) ∧ x.tickL.map x.tk1.fly = [⟨i, L, x.ro.ep, true, []⟩, ⟨i, L, x.ro.ep, false, cs⟩])) := by
  have htk : x.ro.tick = x.ro := by unfold Ro.tick; rw [if_pos ha]
  have hring : x.ro.rings = false := by unfold Ro.rings; rw [if_pos ha]
  have hE : x.tkE = 0 := by unfold No.tkE; rw [hring]; rfl
  have hk : x.tk1 = x.ticked := by unfold No.tk1; rw [hring]; rfl
  obtain ⟨t1, t2', t3, t4, t5, t6, t7, t8⟩ := tick_tk1 x
  have hT : x.ticked.T = newT := by show expT x.T _ 32 = _; rw [h.T, expT_new]
  have hro : x.tick.ro = x.ro := by rw [t2', hk]; exact htk
  refine ⟨hE, ⟨?_, ?_, ?_, ?_, ?_, ?_, ?_⟩, hro, ?_⟩
  · rw [t1, hk]; exact h.id
  · rw [t6, hk]; exact h.li
  · rw [t8, hk]; show x.now + 1 = n + 1; rw [h.now]
  · rw [t3, hk]; exact hT
  · rw [t4, hk]; exact h.mt
  · rw [t7, hk]; exact h.ml
  · rw [hro]; exact h.nd
  · have hacT : x.ticked.ro.ac = true := by show x.ro.tick.ac = true; rw [htk]; exact ha
    have hepT : x.ticked.ro.ep = x.ro.ep := by show x.ro.tick.ep = _; rw [htk]
    have hnow : x.ticked.now = n + 1 := by show x.now + 1 = _; rw [h.now]
    have hL : x.tickL = (if x.ticked.due then [⟨true, []⟩] else []) ++ (if x.ticked.due then [⟨false, nxL x.ticked.T x.ticked.D x.ticked.cu⟩] else []) := by
      unfold No.tickL No.notes
      rw [if_pos hE, hk, if_pos hacT, ha]
      rfl
    by_cases h3 : (n + 1) % 3 = 0
    · have hd : x.ticked.due = true := by unfold No.due; rw [hnow]; exact decide_eq_true h3
      have hsp := nx_spec x.ticked.T x.ticked.D x.ticked.cu
      refine .inr ⟨h3, (nxL x.ticked.T x.ticked.D x.ticked.cu).map (fun (j : Nat) => (⟨(j : Int), x.ticked.T j⟩ : Tc)), by rw [List.length_map, hsp.len]; omega, fun c hc => ?_, ?_⟩
      · obtain ⟨j, hj, rfl⟩ := List.mem_map.1 hc
        have := hsp.lt j hj
        exact ⟨okS_iff.2 ⟨by show (0 : Int) ≤ (j : Int); omega, by show (j : Int) < 32; omega⟩, by show x.ticked.T j = noC; rw [hT]; rfl⟩
      · rw [hL, hd, hk]
        show [x.ticked.fly ⟨true, []⟩, x.ticked.fly ⟨false, nxL x.ticked.T x.ticked.D x.ticked.cu⟩] = _
        unfold No.fly
        rw [show x.ticked.id = i from h.id, show x.ticked.life = L from h.li, hepT]
        rfl
    · have hd : x.ticked.due = false := by unfold No.due; rw [hnow]; exact decide_eq_false h3
      exact .inl ⟨h3, by rw [hL, hd]; rfl⟩
/-- a node hears that there is nothing. -/
theorem Em.hear {i : Nat} {L M n : Int} {x : No} (h : Em i L M n x) {ep : Int} {cs : List Tc} (hi : i < 2) (h1 : 1 ≤ M) (h0 : 0 ≤ ep) (hep : ep ≤ 1073741824) (hc : cs.length ≤ 8) (hcs : ∀ c ∈ cs, okS c = true ∧ c.c = noC) : Em i L M n (x.hrd ⟨((1 - i : Nat) : Int), M, ep, false, cs⟩) ∧ (x.hrd ⟨((1 - i : Nat) : Int), M, ep, false, cs⟩).ro = x.ro.hear ep := by
  have hml := h.ml
  have hte : tellE x.ml M cs = 0 := by
    unfold tellE
    rw [if_neg, if_neg (by omega)]
    rintro (a | a | a)
    · omega
    · omega
    · obtain ⟨c, hm, hq⟩ := List.any_eq_true.1 a
      rw [(hcs c hm).1] at hq
      cases hq
  have he : x.heE ⟨((1 - i : Nat) : Int), M, ep, false, cs⟩ = 0 := by
    unfold No.heE
    rw [if_pos ⟨by show ((1 - i : Nat) : Int) = 1 - x.id; rw [h.id]; omega, h0, hep⟩]
    exact hte
  have hx : x.hrd ⟨((1 - i : Nat) : Int), M, ep, false, cs⟩ = { x with ml := tellLife x.ml M cs, mt := tellT x.ml M x.mt cs, ro := x.ro.hear ep } := by
    unfold No.hrd
    rw [if_pos he]
  rw [hx]
  refine ⟨⟨h.id, h.li, h.now, h.T, ?_, ?_, ?_⟩, rfl⟩
  · show tellT x.ml M x.mt cs = newT
    rw [h.mt]
    exact tellT_new _ _ _ (fun c hm => (hcs c hm).2)
  · show tellLife x.ml M cs ≤ M
    unfold tellLife
    rw [if_pos hte]
    exact Int.le_refl _
  · show (x.ro.hear ep).nd = i
    unfold Ro.hear
    split
    · exact h.nd
    · exact h.nd
end Go.Proofs.YtenonidmgpmohaaGreatDoor
