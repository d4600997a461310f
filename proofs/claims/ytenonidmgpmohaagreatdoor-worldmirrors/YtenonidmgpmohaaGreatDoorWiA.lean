/-
  What holds of a world whatever happens: ports are of both halves; claims rise at each node, are of its parity, and are written ahead; the switch knows a claim.
-/
import Derived.Test.YtenonidmgpmohaaGreatDoorKq
namespace Go.Proofs.YtenonidmgpmohaaGreatDoor
open Go.RowKit

def PtC (c : Ce) : Prop := c.pr ≠ 0 → 2000 ≤ c.po ∧ c.po < 2048
def Pt (T : Tb) : Prop := ∀ j, PtC (T j)
theorem Pt.new : Pt newT := fun _ h => absurd rfl h
theorem Pt.upd {T : Tb} (h : Pt T) (k : Nat) {c : Ce} (hc : PtC c) : Pt (upd T k c) := fun j => by
  unfold Go.Proofs.YtenonidmgpmohaaGreatDoor.upd
  split
  · exact hc
  · exact h j
theorem Pt.exp {T : Tb} (h : Pt T) (now : Int) (n : Nat) : Pt (expT T now n) := fun j => by
  unfold expT
  split
  · intro e; exact absurd rfl e
  · exact h j
theorem Pt.put {T : Tb} (h : Pt T) {pr ia ip fa fp po st un : Int} (hc : pr ≠ 0 → 2000 ≤ po ∧ po < 2048) : Pt (putT T pr ia ip fa fp po st un).2.2 := by
  unfold putT
  repeat' split
  all_goals first | exact h | exact h.upd _ hc
theorem Pt.add {T : Tb} (h : Pt T) {low pr ia ip fa fp st un : Int} (h0 : 2000 ≤ low) (h1 : low ≤ 2024) : Pt (addT T low pr ia ip fa fp st un).2.2 := by
  unfold addT
  split
  · exact h
  split
  · exact h
  split
  · exact h
  · rename_i p hp
    refine h.upd _ (fun _ => ?_)
    have := (freeP_some.1 hp).1
    show 2000 ≤ low + (p : Int) ∧ low + (p : Int) < 2048
    omega
theorem Pt.set {T : Tb} (h : Pt T) (k st un : Int) : Pt (setT T k st un) := by
  unfold setT
  split
  · exact h.upd _ (fun e => h k.toNat e)
  · exact h
theorem Pt.drop {T : Tb} (h : Pt T) (k : Int) : Pt (dropT T k) := by
  unfold dropT
  split
  · exact h.upd _ (fun e => absurd rfl e)
  · exact h
theorem Pt.ad (now : Int) : ∀ (l : List Ce) {T : Tb}, Pt T → (∀ c ∈ l, PtC c) → Pt (adT now T l)
  | [], _, h, _ => h
  | c :: l, _, h, hl => Pt.ad now l (h.put (hl c (by simp))) (fun d hd => hl d (by simp [hd]))
theorem Pt.flL {T : Tb} (h : Pt T) (n : Nat) : ∀ c ∈ flL T n, PtC c := fun c hc => by
  obtain ⟨j, _, rfl⟩ := flL_mem hc
  exact h j
theorem Pt.takeL : ∀ (l : List Tc) {T : Tb}, Pt T → (∀ c ∈ l, PtC c.c) → Pt (takeL T l)
  | [], _, h, _ => h
  | c :: l, T, h, hl => by
    have h1 : Pt (takeT T c) := by
      unfold takeT
      split
      · exact h.upd _ (hl c (by simp))
      · exact h
    exact Pt.takeL l h1 (fun d hd => hl d (by simp [hd]))
theorem Pt.tell {T : Tb} (h : Pt T) (old life : Int) {l : List Tc} (hl : ∀ c ∈ l, PtC c.c) : Pt (tellT old life T l) := by
  unfold tellT
  split
  · refine Pt.takeL l ?_ hl
    split
    · exact Pt.new
    · exact h
  · exact h
/-- a node's ports, and whose it is. -/
structure Xp (i : Nat) (x : No) : Prop where
  id : x.id = i
  nd : x.ro.nd = i
  T : Pt x.T
  mt : Pt x.mt
theorem Xp.new {i : Nat} {y : By} {l : List Rl} : Xp i (No.new i y l) := ⟨rfl, rfl, Pt.new, Pt.new⟩
theorem Xp.low {i : Nat} {x : No} (h : Xp i x) (hi : i < 2) : 2000 ≤ x.low ∧ x.low ≤ 2024 := by
  unfold No.low
  rw [h.id]
  omega
theorem Xp.stp {i : Nat} {x : No} (h : Xp i x) (j : Nat) (fl : Int) (ou : Bool) : Xp i (x.stp j fl ou) := by
  unfold No.stp
  split
  · exact ⟨h.id, h.nd, h.T.drop _, h.mt⟩
  · exact ⟨h.id, h.nd, h.T.set _ _ _, h.mt⟩
theorem Xp.ins {i : Nat} {x : No} (h : Xp i x) (hi : i < 2) (p : Pk) : Xp i (x.ins p) := by
  have hl := h.low hi
  unfold No.ins
  split
  · unfold No.ou
    split
    · exact h.stp _ _ _
    · unfold No.bg
      split
      · exact ⟨h.id, h.nd, h.T.add hl.1 hl.2, h.mt⟩
      · exact h
  · exact h
theorem Xp.ots {i : Nat} {x : No} (h : Xp i x) (p : Pk) : Xp i (x.ots p) := by
  unfold No.ots
  split
  · exact h.stp _ _ _
  · exact h
theorem Xp.hrd {i : Nat} {x : No} (h : Xp i x) {t : Nf} (ht : ∀ c ∈ t.cs, PtC c.c) : Xp i (x.hrd t) := by
  unfold No.hrd
  split
  · refine ⟨h.id, ?_, h.T, h.mt.tell _ _ ht⟩
    show (x.ro.hear t.ep).nd = i
    unfold Ro.hear
    split
    · exact h.nd
    · exact h.nd
  · exact h
theorem tick_nd' (r : Ro) : r.tick.nd = r.nd ∧ r.tick.ac = r.ac := by
  unfold Ro.tick
  split
  · exact ⟨rfl, rfl⟩
  · rename_i h
    exact ⟨rfl, by simpa using h⟩
theorem Xp.ticked {i : Nat} {x : No} (h : Xp i x) : Xp i x.ticked := ⟨h.id, by show x.ro.tick.nd = i; rw [(tick_nd' x.ro).1]; exact h.nd, h.T.exp _ _, h.mt⟩
theorem claim_nd (r : Ro) (n : Int) : (r.claim n).nd = r.nd := by unfold Ro.claim; split <;> rfl
theorem Xp.clm {i : Nat} {x : No} (h : Xp i x) : Xp i x.clm := by
  unfold No.clm
  split
  · split
    · exact ⟨h.id, (claim_nd _ _).trans h.nd, h.T.ad _ _ (h.mt.flL 32), h.mt⟩
    · exact ⟨h.id, h.nd, h.T, h.mt⟩
  · exact h
theorem Xp.tk1 {i : Nat} {x : No} (h : Xp i x) : Xp i x.tk1 := by
  unfold No.tk1
  split
  · exact h.ticked.clm
  · exact h.ticked
theorem noted_same (x : No) : x.noted.id = x.id ∧ x.noted.ro = x.ro ∧ x.noted.T = x.T ∧ x.noted.mt = x.mt ∧ x.noted.y = x.y ∧ x.noted.life = x.life ∧ x.noted.ml = x.ml ∧ x.noted.now = x.now := by
  unfold No.noted
  split <;> exact ⟨rfl, rfl, rfl, rfl, rfl, rfl, rfl, rfl⟩
theorem tick_tk1 (x : No) : x.tick.id = x.tk1.id ∧ x.tick.ro = x.tk1.ro ∧ x.tick.T = x.tk1.T ∧ x.tick.mt = x.tk1.mt ∧ x.tick.y = x.tk1.y ∧ x.tick.life = x.tk1.life ∧ x.tick.ml = x.tk1.ml ∧ x.tick.now = x.tk1.now := by
  unfold No.tick
  split
  · exact noted_same _
  · exact ⟨rfl, rfl, rfl, rfl, rfl, rfl, rfl, rfl⟩
theorem Xp.tick {i : Nat} {x : No} (h : Xp i x) : Xp i x.tick := by
  obtain ⟨h1, h2, h3, h4, _⟩ := tick_tk1 x
  have k := h.tk1
  exact ⟨h1.trans k.id, by rw [h2]; exact k.nd, by rw [h3]; exact k.T, by rw [h4]; exact k.mt⟩
/-- a tick: nothing is claimed, or something is, and it is written. -/
theorem tk1_ways {q : Nat} {x : No} (h : XI q x) (hq : q ≤ 100000) : (x.tk1.ro.ac = x.ro.ac ∧ x.tk1.ro.ep = x.ro.ep ∧ newest x.tk1.y.B = newest x.y.B) ∨ (x.tkE = 0 ∧ x.ro.ac = false ∧ x.tk1.ro.ac = true ∧ x.tk1.ro.ep = x.ro.nx ∧ newest x.tk1.y.B = ⟨(newest x.y.B).n + 1, x.ro.nx.toNat, x.life.toNat⟩) := by
  have he := h.ep
  have heq := h.eq
  have hli := h.li
  have hl := h.y.l
  have hn := h.y.n
  have hnn := h.y.e
  have hb := nx_bound x.ro
  by_cases hr : x.ro.rings = true
  · obtain ⟨ha, ha'⟩ := rings_ac hr
    have hne : x.ro.tick.nxE = 0 := by
      have hb' := nx_bound x.ro.tick
      rw [tick_ep] at hb'
      unfold Ro.nxE
      rw [if_neg (by omega)]
    have hnx : x.ro.tick.nx = x.ro.nx := by unfold Ro.nx; rw [tick_ep, (tick_nd' x.ro).1]
    have hv : x.ro.tick.nxV = x.ro.nx := by unfold Ro.nxV; rw [hnx, if_neg (by omega)]
    have hk : x.tk1 = x.ticked.clm := by unfold No.tk1; rw [if_pos hr]
    have hE : x.tkE = x.ticked.cp.1 := by unfold No.tkE No.clE; rw [if_pos hr]; exact if_pos hne
    have hcp : x.ticked.cp = putE x.off x.y x.ro.nx x.life := by show putE x.off x.y x.ro.tick.nxV x.life = _; rw [hv]
    obtain ⟨p1, p2, p3⟩ := putE_pair (off := x.off) (ep := x.ro.nx) (li := x.life) h.y (by omega) (by omega) (by omega)
    by_cases hz : x.ticked.cp.1 = 0
    · have hclm : x.ticked.clm = { x.ticked with y := x.ticked.cp.2.1, off := x.ticked.cp.2.2, T := adT x.ticked.now x.ticked.T (flL x.ticked.mt 32), ro := x.ticked.ro.claim x.ticked.ro.nxV } := by
        unfold No.clm
        rw [if_pos (show x.ticked.ro.nxE = 0 from hne), if_pos hz]
      have hro : x.ticked.ro.claim x.ticked.ro.nxV = ⟨x.ro.tick.nd, x.ro.nx, x.ro.tick.si, true⟩ := by
        show x.ro.tick.claim x.ro.tick.nxV = _
        unfold Ro.claim
        rw [if_pos (Ro.clE_ok ha hne), hv]
      refine .inr ⟨by rw [hE]; exact hz, ha', ?_, ?_, ?_⟩
      · rw [hk, hclm]; show (x.ticked.ro.claim x.ticked.ro.nxV).ac = true; rw [hro]
      · rw [hk, hclm]; show (x.ticked.ro.claim x.ticked.ro.nxV).ep = _; rw [hro]
      · rw [hk, hclm]
        show newest x.ticked.cp.2.1.B = _
        rw [hcp] at hz ⊢
        exact p3 hz
    · have hclm : x.ticked.clm = { x.ticked with y := x.ticked.cp.2.1, off := x.ticked.cp.2.2 } := by
        unfold No.clm
        rw [if_pos (show x.ticked.ro.nxE = 0 from hne), if_neg hz]
      refine .inl ⟨?_, ?_, ?_⟩
      · rw [hk, hclm]; exact (tick_nd' x.ro).2
      · rw [hk, hclm]; exact tick_ep x.ro
      · rw [hk, hclm]
        show newest x.ticked.cp.2.1.B = _
        rw [hcp] at hz ⊢
        rcases p2 with e | ⟨e, _⟩
        · exact e
        · exact absurd e hz
  · have hk : x.tk1 = x.ticked := by unfold No.tk1; rw [if_neg hr]
    rw [hk]
    exact .inl ⟨(tick_nd' x.ro).2, tick_ep x.ro, rfl⟩
/-- the bytes of a node, up or down. -/
def Wo.byt (W : Wo) (i : Nat) : By := match W.nd i with | some x => x.y | none => W.yb i
def Wo.dur (W : Wo) (i : Nat) : Int := (newest (W.byt i).B).e
theorem byt_up {W : Wo} {i : Nat} {x : No} (h : W.nd i = some x) : W.byt i = x.y := by unfold Wo.byt; rw [h]
theorem byt_dn {W : Wo} {i : Nat} (h : W.nd i = none) : W.byt i = W.yb i := by unfold Wo.byt; rw [h]
structure Ap (q : Nat) (W : Wo) : Prop where
  nd : ∀ i x, W.nd i = some x → i < 2 ∧ Xp i x
  pf : ∀ t ∈ W.fl, ∀ c ∈ t.cs, PtC c.c
  ev : ∀ e ∈ W.ev, (e.1 = 0 ∨ e.1 = 1) ∧ e.2 % 2 = e.1 ∧ 0 < e.2 ∧ e.2 ≤ W.dur e.1.toNat
  pw : W.ev.Pairwise (fun a b => a.1 = b.1 → a.2 < b.2)
  ac : ∀ i x, W.nd i = some x → x.ro.ac = true → ((i : Int), x.ro.ep) ∈ W.ev
  cl : ∀ t ∈ W.fl, t.cl = true → (t.fr, t.ep) ∈ W.ev
  sw : W.he ≠ 0 → (W.hn, W.he) ∈ W.ev
  ln : W.ev.length ≤ q
theorem Ap.mono {q q' : Nat} {W : Wo} (h : Ap q W) (hq : q ≤ q') : Ap q' W := ⟨h.nd, h.pf, h.ev, h.pw, h.ac, h.cl, h.sw, Nat.le_trans h.ln hq⟩
theorem Ap.born (l : List Rl) : Ap 0 (Wo.born l) := by
  have hnd : ∀ i x, (Wo.born l).nd i = some x → i < 2 ∧ x = No.new i new0.oned l := fun i x hx => by
    have hx' : (if i < 2 then some (No.new i new0.oned l) else none) = some x := hx
    split at hx'
    · rename_i hi
      cases hx'
      exact ⟨hi, rfl⟩
    · cases hx'
  refine ⟨fun i x hx => ?_, fun t ht => ?_, fun e he => ?_, List.Pairwise.nil, fun i x hx ha => ?_, fun t ht => ?_, fun h => absurd rfl h, Nat.le_refl _⟩
  · obtain ⟨hi, rfl⟩ := hnd i x hx
    exact ⟨hi, Xp.new⟩
  · have h' : t ∈ ([] : List Nf) := ht
    simp at h'
  · have h' : e ∈ ([] : List (Int × Int)) := he
    simp at h'
  · obtain ⟨hi, rfl⟩ := hnd i x hx
    cases ha
  · have h' : t ∈ ([] : List Nf) := ht
    simp at h'
theorem byt_set {W : Wo} {i j : Nat} {x : No} : ({ W with nd := setN W.nd i (some x) } : Wo).byt j = if j = i then x.y else W.byt j := by
  unfold Wo.byt
  show (match setN W.nd i (some x) j with | some x => x.y | none => W.yb j) = _
  by_cases e : j = i
  · subst e; rw [setN_same, if_pos rfl]
  · rw [setN_other _ _ e, if_neg e]
theorem dur_set {W : Wo} {i j : Nat} {x : No} : ({ W with nd := setN W.nd i (some x) } : Wo).dur j = if j = i then ((newest x.y.B).e : Int) else W.dur j := by
  unfold Wo.dur
  rw [byt_set]
  split <;> rfl
/-- a node is anew: nothing new is claimed. -/
theorem Ap.node {q : Nat} {W : Wo} (h : Ap q W) {i : Nat} {x : No} (hi : i < 2) (hx : Xp i x) (hd : W.dur i ≤ ((newest x.y.B).e : Int)) (ha : x.ro.ac = true → ((i : Int), x.ro.ep) ∈ W.ev) : Ap q { W with nd := setN W.nd i (some x) } := by
  refine ⟨fun j y hy => ?_, h.pf, fun e he => ?_, h.pw, fun j y hy hya => ?_, h.cl, h.sw, h.ln⟩
  · have hy' : setN W.nd i (some x) j = some y := hy
    by_cases e : j = i
    · subst e; rw [setN_same] at hy'; cases hy'; exact ⟨hi, hx⟩
    · rw [setN_other _ _ e] at hy'; exact h.nd j y hy'
  · obtain ⟨e1, e2, e3, e4⟩ := h.ev e he
    refine ⟨e1, e2, e3, ?_⟩
    rw [dur_set]
    split
    · rename_i e5; rw [e5] at e4; omega
    · exact e4
  · have hy' : setN W.nd i (some x) j = some y := hy
    by_cases e : j = i
    · subst e; rw [setN_same] at hy'; cases hy'; exact ha hya
    · rw [setN_other _ _ e] at hy'; exact h.ac j y hy' hya
/-- a node claims. -/
theorem Ap.claim {q : Nat} {W : Wo} (h : Ap q W) (hq : q ≤ 900) {i : Nat} {x : No} (hi : i < 2) (hx : Xp i x) (hd : W.dur i < x.ro.ep) (he : ((newest x.y.B).e : Int) = x.ro.ep) (h0 : 0 < x.ro.ep) (hp : x.ro.ep % 2 = i) : Ap (q + 1) (({ W with nd := setN W.nd i (some x) } : Wo).noted ((i : Int), x.ro.ep)) := by
  have hln := h.ln
  have hev : (({ W with nd := setN W.nd i (some x) } : Wo).noted ((i : Int), x.ro.ep)).ev = W.ev ++ [((i : Int), x.ro.ep)] := by
    show (if W.ev.length < 1000 then W.ev ++ [((i : Int), x.ro.ep)] else W.ev) = _
    rw [if_pos (by omega)]
  have hin : ∀ e, e ∈ W.ev → e ∈ (({ W with nd := setN W.nd i (some x) } : Wo).noted ((i : Int), x.ro.ep)).ev := fun e he => by rw [hev]; simp [he]
  have hdur : ∀ j, (({ W with nd := setN W.nd i (some x) } : Wo).noted ((i : Int), x.ro.ep)).dur j = if j = i then ((newest x.y.B).e : Int) else W.dur j := fun j => dur_set
  refine ⟨fun j y hy => ?_, h.pf, fun e he' => ?_, ?_, fun j y hy hya => ?_, fun t ht hc => hin _ (h.cl t ht hc), fun hs => hin _ (h.sw hs), ?_⟩
  · have hy' : setN W.nd i (some x) j = some y := hy
    by_cases e : j = i
    · subst e; rw [setN_same] at hy'; cases hy'; exact ⟨hi, hx⟩
    · rw [setN_other _ _ e] at hy'; exact h.nd j y hy'
  · rw [hev] at he'
    rw [hdur]
    rcases List.mem_append.1 he' with e1 | e1
    · obtain ⟨a1, a2, a3, a4⟩ := h.ev e e1
      refine ⟨a1, a2, a3, ?_⟩
      split
      · rename_i e5; rw [e5] at a4; omega
      · exact a4
    · have e2 : e = ((i : Int), x.ro.ep) := by simpa using e1
      subst e2
      refine ⟨by show (i : Int) = 0 ∨ (i : Int) = 1; omega, hp, h0, ?_⟩
      show x.ro.ep ≤ if ((i : Nat) : Int).toNat = i then ((newest x.y.B).e : Int) else _
      rw [if_pos (Int.toNat_natCast i)]
      omega
  · rw [hev]
    refine List.pairwise_append.2 ⟨h.pw, List.pairwise_singleton _ _, fun a ha b hb => ?_⟩
    have e2 : b = ((i : Int), x.ro.ep) := by simpa using hb
    subst e2
    intro e1
    have a4 := (h.ev a ha).2.2.2
    have e3 : a.1.toNat = i := by rw [e1]; exact Int.toNat_natCast i
    rw [e3] at a4
    show a.2 < x.ro.ep
    omega
  · have hy' : setN W.nd i (some x) j = some y := hy
    by_cases e : j = i
    · subst e
      rw [setN_same] at hy'
      cases hy'
      rw [hev]
      simp
    · rw [setN_other _ _ e] at hy'; exact hin _ (h.ac j y hy' hya)
  · rw [hev, List.length_append]
    show W.ev.length + 1 ≤ q + 1
    omega
theorem Ap.sent {q : Nat} {W : Wo} (h : Ap q W) {l : List Nf} (hl : ∀ t ∈ l, (∀ c ∈ t.cs, PtC c.c) ∧ (t.cl = true → (t.fr, t.ep) ∈ W.ev)) : Ap q (W.sent l) := by
  have hm : ∀ t, t ∈ (W.sent l).fl → t ∈ W.fl ∨ t ∈ l := fun t ht => by
    have ht' : t ∈ W.fl ++ l.take (200 - W.fl.length) := ht
    rcases List.mem_append.1 ht' with a | a
    · exact .inl a
    · exact .inr (List.mem_of_mem_take a)
  refine ⟨h.nd, fun t ht => ?_, h.ev, h.pw, h.ac, fun t ht hc => ?_, h.sw, h.ln⟩
  · rcases hm t ht with a | a
    · exact h.pf t a
    · exact (hl t a).1
  · rcases hm t ht with a | a
    · exact h.cl t a hc
    · exact (hl t a).2 hc
theorem byt_fallen {W : Wo} {i j : Nat} {y : By} : (W.fallen i y).byt j = if j = i then y.offed else W.byt j := by
  unfold Wo.byt
  show (match setN W.nd i none j with | some x => x.y | none => setN W.yb i y.offed j) = _
  by_cases e : j = i
  · subst e; rw [setN_same, setN_same, if_pos rfl]
  · rw [setN_other _ _ e, setN_other _ _ e, if_neg e]
theorem byt_ruled {W : Wo} {l : List Rl} {i j : Nat} : (W.ruledTo l j).byt i = W.byt i := by
  unfold Wo.byt
  show (match (if i < j then (W.nd i).map (fun y => ({ y with ru := l } : No)) else W.nd i) with | some x => x.y | none => W.yb i) = _
  by_cases h : i < j
  · rw [if_pos h]
    cases W.nd i <;> rfl
  · rw [if_neg h]
theorem Ap.fallen {q : Nat} {W : Wo} (h : Ap q W) {i : Nat} {y : By} (hd : W.dur i ≤ ((newest y.B).e : Int)) : Ap q (W.fallen i y) := by
  refine ⟨fun j x hx => ?_, h.pf, fun e he => ?_, h.pw, fun j x hx ha => ?_, h.cl, h.sw, h.ln⟩
  · have hx' : setN W.nd i none j = some x := hx
    by_cases e : j = i
    · subst e; rw [setN_same] at hx'; cases hx'
    · rw [setN_other _ _ e] at hx'; exact h.nd j x hx'
  · obtain ⟨e1, e2, e3, e4⟩ := h.ev e he
    refine ⟨e1, e2, e3, ?_⟩
    unfold Wo.dur at *
    rw [byt_fallen]
    split
    · rename_i e5
      rw [e5] at e4
      exact Int.le_trans e4 hd
    · exact e4
  · have hx' : setN W.nd i none j = some x := hx
    by_cases e : j = i
    · subst e; rw [setN_same] at hx'; cases hx'
    · rw [setN_other _ _ e] at hx'; exact h.ac j x hx' ha
theorem Ap.tick {q : Nat} {W : Wo} (h : Ap q W) (hI : In q W) (hq : q ≤ 900) (n : Int) : Ap (q + 1) (W.tcd n) := by
  unfold Wo.tcd
  split
  · cases hx : W.nd n.toNat with
    | none => exact h.mono (by omega)
    | some x =>
      have hX := hI.up _ x hx
      obtain ⟨hi, hp⟩ := h.nd _ x hx
      obtain ⟨t1, t2', t3, t4, t5, _⟩ := tick_tk1 x
      have hdu : W.dur n.toNat = ((newest x.y.B).e : Int) := by unfold Wo.dur; rw [byt_up hx]
      have hfl : ∀ {V : Wo}, (x.tk1.ro.ac = true → (((n.toNat : Nat) : Int), x.tk1.ro.ep) ∈ V.ev) → x.tkE = 0 → ∀ t ∈ x.tickL.map x.tk1.fly, (∀ c ∈ t.cs, PtC c.c) ∧ (t.cl = true → (t.fr, t.ep) ∈ V.ev) := fun {V} hV hE t ht => by
        obtain ⟨u, hu, rfl⟩ := List.mem_map.1 ht
        refine ⟨fun c hc => ?_, fun _ => ?_⟩
        · obtain ⟨j, _, rfl⟩ := List.mem_map.1 hc
          exact hp.tk1.T j
        · have hac : x.tk1.ro.ac = true := by
            unfold No.tickL at hu
            rw [if_pos hE] at hu
            unfold No.notes at hu
            split at hu
            · assumption
            · simp at hu
          have := hV hac
          show (x.tk1.id, x.tk1.ro.ep) ∈ V.ev
          rw [hp.tk1.id]
          exact this
      show Ap (q + 1) (W.ticked n.toNat x)
      unfold Wo.ticked
      rcases tk1_ways hX (by omega) with ⟨a1, a2, a3⟩ | ⟨a0, a1, a2, a3, a4⟩
      · have hd : W.dur n.toNat ≤ ((newest x.tick.y.B).e : Int) := by rw [hdu, t5, a3]; exact Int.le_refl _
        have hac : x.tick.ro.ac = true → (((n.toNat : Nat) : Int), x.tick.ro.ep) ∈ W.ev := fun e => by
          rw [t2'] at e ⊢
          rw [a2]
          exact h.ac _ x hx (by rw [← a1]; exact e)
        have h2 := (h.mono (q' := q + 1) (by omega)).node hi hp.tick hd hac
        split
        · rename_i hE
          rw [if_neg (by rw [t2', a1]; cases x.ro.ac <;> simp)]
          exact h2.sent (hfl (V := { W with nd := setN W.nd n.toNat (some x.tick) }) (fun e => by rw [t2'] at hac; exact hac e) hE)
        · split
          · exact (h.mono (q' := q + 1) (by omega)).fallen hd
          · exact h2
      · rw [if_pos a0, if_pos (by rw [a1, t2', a2]; rfl)]
        have hb := nx_bound x.ro
        have hep := hX.ep
        have hpar : x.ro.nx % 2 = ((n.toNat : Nat) : Int) := by
          have h1 := hp.nd
          unfold Ro.nx
          rw [h1]
          split <;> omega
        have hy : ((newest x.tick.y.B).e : Int) = x.tick.ro.ep := by
          rw [t5, a4, t2', a3]
          show ((x.ro.nx.toNat : Nat) : Int) = x.ro.nx
          omega
        have he : x.tick.ro.ep = x.ro.nx := by rw [t2', a3]
        have h2 := h.claim hq hi hp.tick (by rw [hdu, he]; omega) hy (by rw [he]; omega) (by rw [he]; exact hpar)
        refine h2.sent (hfl (fun e => ?_) a0)
        have := h2.ac n.toNat x.tick (setN_same _ _ _) (by rw [t2']; exact e)
        rw [t2'] at this
        rw [t2']
        exact this
  · exact h.mono (by omega)
theorem Ap.down {q : Nat} {W : Wo} (h : Ap q W) (n : Int) : Ap q (W.downed n) := by
  unfold Wo.downed
  split
  · cases hx : W.nd n.toNat with
    | none => exact h
    | some x => exact h.fallen (by unfold Wo.dur; rw [byt_up hx]; exact Int.le_refl _)
  · exact h
theorem new_newest {q i : Nat} {y : By} {l : List Rl} (h : YI q y) (hq : q ≤ 100000) (hi : i < 2) (hr : RulesOk l) : newest (No.new i y.oned l).y.B = ⟨(newest y.B).n + 1, (newest y.B).e, (newest y.B).l + 1⟩ := by
  have ok := h.newOk (i := i) (l := l) hq hi hr
  have ho : YI q y.oned := ⟨h.len, h.n, h.e, h.l⟩
  obtain ⟨_, _, p3⟩ := putE_pair (off := false) (ep := ((newest y.oned.B).e : Int)) (li := ((newest y.oned.B).l : Int) + 1) ho (by omega) (by have := ho.e; omega) (by have := ho.l; omega)
  have e := p3 ok.pu
  have en : newest y.oned.B = newest y.B := rfl
  have hy : (No.new i y.oned l).y = (putE false y.oned ((newest y.oned.B).e : Int) (((newest y.oned.B).l : Int) + 1)).2.1 := rfl
  rw [hy, e, en]
  have e2 : (((newest y.B).l : Int) + 1).toNat = (newest y.B).l + 1 := by omega
  rw [e2, Int.toNat_natCast]
theorem Ap.upN {q : Nat} {W : Wo} (h : Ap q W) (hI : In q W) (hq : q ≤ 900) (hr : RulesOk W.ru) (n : Int) : Ap q (W.upped n) := by
  unfold Wo.upped
  split
  · rename_i e
    unfold Wo.roE at e
    split at e
    · rename_i h2
      split at e
      · omega
      · rename_i hs
        have hn : W.nd n.toNat = none := by cases hq2 : W.nd n.toNat with | none => rfl | some y => rw [hq2] at hs; simp at hs
        refine h.node (by omega) Xp.new ?_ (fun e => by cases e)
        rw [new_newest (hI.dn _ (by omega) hn) (by omega) (by omega) hr]
        unfold Wo.dur
        rw [byt_dn hn]
        exact Int.le_refl _
    · omega
  · exact h
theorem Ap.same {q : Nat} {W : Wo} (h : Ap q W) {i : Nat} {x x' : No} (hx : W.nd i = some x) (hp : Xp i x') (hy : newest x'.y.B = newest x.y.B) (hr : x'.ro.ac = true → x.ro.ac = true ∧ x'.ro.ep = x.ro.ep) : Ap q { W with nd := setN W.nd i (some x') } :=
  h.node (h.nd i x hx).1 hp (by unfold Wo.dur; rw [byt_up hx, hy]; exact Int.le_refl _) (fun e => by rw [(hr e).2]; exact h.ac i x hx (hr e).1)
theorem Ap.cut {q : Nat} {W : Wo} (h : Ap q W) (n m : Int) : Ap q (W.cutted n m) := by
  unfold Wo.cutted
  split
  · cases hx : W.nd n.toNat with
    | none => exact h
    | some x =>
      have hB : (x.y.setCut m).B = x.y.B := by unfold By.setCut; split <;> rfl
      have k := (h.nd _ x hx).2
      exact h.same hx ⟨k.id, k.nd, k.T, k.mt⟩ (by show newest (x.y.setCut m).B = _; rw [hB]) (fun e => ⟨e, rfl⟩)
  · exact h
theorem Ap.inside {q : Nat} {W : Wo} (h : Ap q W) (p : Pk) : Ap q (W.ins p) := by
  unfold Wo.ins
  split
  · rename_i i x hc
    have s := ins_same2 x p
    obtain ⟨hi, k⟩ := h.nd i x (cho_some hc).2.1
    exact h.same (cho_some hc).2.1 (k.ins hi p) (by rw [s.1]) (fun e => by rw [s.2.2] at e ⊢; exact ⟨e, rfl⟩)
  · exact h
theorem Ap.outside {q : Nat} {W : Wo} (h : Ap q W) (p : Pk) : Ap q (W.ots p) := by
  unfold Wo.ots
  split
  · rename_i i x hc
    have s := ots_same2 x p
    obtain ⟨hi, k⟩ := h.nd i x (cho_some hc).2.1
    exact h.same (cho_some hc).2.1 (k.ots p) (by rw [s.1]) (fun e => by rw [s.2.2] at e ⊢; exact ⟨e, rfl⟩)
  · exact h
theorem Ap.flat {q : Nat} {W : Wo} (h : Ap q W) (l : List Nf) (hl : ∀ t ∈ l, t ∈ W.fl) : Ap q { W with fl := l } := ⟨h.nd, fun t ht => h.pf t (hl t ht), h.ev, h.pw, h.ac, fun t ht => h.cl t (hl t ht), h.sw, h.ln⟩
theorem Ap.landed {q : Nat} {W : Wo} (h : Ap q W) (k : Nat) : Ap q (W.landed k) := h.flat _ (fun _ ht => List.mem_of_mem_eraseIdx ht)
theorem Ap.drop {q : Nat} {W : Wo} (h : Ap q W) (n : Int) : Ap q (W.dropped n) := by
  unfold Wo.dropped
  split
  · exact h.landed _
  · exact h
theorem Ap.twice {q : Nat} {W : Wo} (h : Ap q W) (n : Int) : Ap q (W.twiced n) := by
  have h1 := h.flat (W.twiced n).fl Wo.twiced_mem
  have s := W.twiced_same n
  have e : W.twiced n = { W with fl := (W.twiced n).fl } := by
    obtain ⟨s1, s2, s3, s4, s5, s6⟩ := s
    generalize W.twiced n = V at *
    cases V
    cases W
    simp only at s1 s2 s3 s4 s5 s6
    subst s1 s2 s3 s4 s5 s6
    rfl
  rw [e]
  exact h1
theorem hear_ac {r : Ro} {n : Int} (h : (r.hear n).ac = true) : r.ac = true ∧ (r.hear n).ep = r.ep := by
  unfold Ro.hear at h ⊢
  split at h
  · rename_i hh
    rw [if_pos hh]
    unfold Ro.heard at hh
    simp only [Bool.and_eq_true, Bool.not_eq_true', decide_eq_false_iff_not] at h hh
    exact ⟨h.1, by show n = r.ep; omega⟩
  · rename_i hh
    rw [if_neg hh]
    exact ⟨h, rfl⟩
theorem hrd_ro {x : No} {t : Nf} : (x.hrd t).y = x.y ∧ (x.hrd t).life = x.life ∧ ((x.hrd t).ro = x.ro ∨ (x.hrd t).ro = x.ro.hear t.ep) := by
  unfold No.hrd
  split
  · exact ⟨rfl, rfl, .inr rfl⟩
  · exact ⟨rfl, rfl, .inl rfl⟩
theorem Ap.dlv {q : Nat} {W : Wo} (h : Ap q W) (n : Int) : Ap q (W.dlv n) := by
  unfold Wo.dlv
  split
  · cases ht : W.fl[n.toNat]? with
    | none => exact h
    | some t =>
      have hm := List.mem_of_getElem? ht
      have h1 := h.landed n.toNat
      show Ap q (W.delivered n.toNat t)
      unfold Wo.delivered
      split
      · rename_i hc
        unfold Wo.heard
        split
        · exact ⟨h1.nd, h1.pf, h1.ev, h1.pw, h1.ac, h1.cl, fun _ => h.cl t hm hc, h1.ln⟩
        · exact h1
      · unfold Wo.handed
        split
        · rename_i x hx
          have hx' : W.nd (1 - t.fr).toNat = some x := hx
          obtain ⟨hi, k⟩ := h.nd _ x hx'
          obtain ⟨r1, _, r3⟩ := hrd_ro (x := x) (t := t)
          exact h1.same hx (k.hrd (h.pf t hm)) (by rw [r1]) (fun e => by
            rcases r3 with e3 | e3
            · rw [e3] at e ⊢; exact ⟨e, rfl⟩
            · rw [e3] at e ⊢; exact hear_ac e)
        · exact h1
  · exact h
theorem Ap.rules {q : Nat} {W : Wo} (h : Ap q W) (l : List Rl) (j : Nat) : Ap q (W.ruledTo l j) := by
  have hnd : ∀ i x, (W.ruledTo l j).nd i = some x → ∃ y, W.nd i = some y ∧ x.id = y.id ∧ x.ro = y.ro ∧ x.T = y.T ∧ x.mt = y.mt ∧ x.y = y.y := fun i x hx => by
    have hx' : (if i < j then (W.nd i).map (fun y => ({ y with ru := l } : No)) else W.nd i) = some x := hx
    split at hx'
    · obtain ⟨y, hy, rfl⟩ := Option.map_eq_some_iff.1 hx'
      exact ⟨y, hy, rfl, rfl, rfl, rfl, rfl⟩
    · exact ⟨x, hx', rfl, rfl, rfl, rfl, rfl⟩
  have hdur : ∀ i, (W.ruledTo l j).dur i = W.dur i := fun i => by unfold Wo.dur; rw [byt_ruled]
  refine ⟨fun i x hx => ?_, h.pf, fun e he => ?_, h.pw, fun i x hx ha => ?_, h.cl, h.sw, h.ln⟩
  · obtain ⟨y, hy, e1, e2, e3, e4, _⟩ := hnd i x hx
    obtain ⟨hi, k⟩ := h.nd i y hy
    exact ⟨hi, e1.trans k.id, by rw [e2]; exact k.nd, by rw [e3]; exact k.T, by rw [e4]; exact k.mt⟩
  · rw [hdur]
    exact h.ev e he
  · obtain ⟨y, hy, e1, e2, _⟩ := hnd i x hx
    rw [e2] at ha ⊢
    exact h.ac i y hy ha
theorem Ap.stp {q : Nat} {W W' : Wo} (h : Ap q W) (hI : In q W) (hq : q ≤ 900) (hr : RulesOk W.ru) (s : Stp W W') : Ap (q + 1) W' := by
  cases s with
  | tick n => exact h.tick hI hq n
  | down n => exact (h.down n).mono (by omega)
  | up n => exact (h.upN hI hq hr n).mono (by omega)
  | cut n m => exact (h.cut n m).mono (by omega)
  | ins p => exact (h.inside p).mono (by omega)
  | ots p => exact (h.outside p).mono (by omega)
  | drop n => exact (h.drop n).mono (by omega)
  | twice n => exact (h.twice n).mono (by omega)
  | rules l hl => exact (h.rules l 2).mono (by omega)
  | dlv n => exact (h.dlv n).mono (by omega)
  | stay => exact h.mono (by omega)
end Go.Proofs.YtenonidmgpmohaaGreatDoor
