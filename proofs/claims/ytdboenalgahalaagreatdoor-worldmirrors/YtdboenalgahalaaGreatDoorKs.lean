/-
  Texts in one: WmM WnM WmT.
-/
import Derived.Test.YtdboenalgahalaaGreatDoorWiA
namespace Go.Proofs.YtdboenalgahalaaGreatDoor
open Go.RowKit

/-- versions grow where cells change. -/
def Grw (T T' : Tb) : Prop := ∀ j, j < 32 → T' j = T j ∨ (T j).ve < (T' j).ve
theorem Grw.refl (T : Tb) : Grw T T := fun _ _ => .inl rfl
theorem Grw.trans {T U V : Tb} (h : Grw T U) (k : Grw U V) : Grw T V := fun j hj => by
  rcases h j hj with a | a
  · rcases k j hj with b | b
    · exact .inl (b.trans a)
    · rw [a] at b; exact .inr b
  · rcases k j hj with b | b
    · rw [b]; exact .inr a
    · exact .inr (by omega)
theorem Grw.upd {T : Tb} (k : Nat) {c : Ce} (h : (T k).ve < c.ve) : Grw T (upd T k c) := fun j _ => by
  unfold Go.Proofs.YtdboenalgahalaaGreatDoor.upd
  split
  · rename_i e; subst e; exact .inr h
  · exact .inl rfl
theorem Grw.lay (T : Tb) (k : Nat) (pr ia ip fa fp po st un : Int) : Grw T (layT T k pr ia ip fa fp po st un) := Grw.upd k (by show (T k).ve < (T k).ve + 1; omega)
theorem Grw.exp (T : Tb) (now : Int) (n : Nat) : Grw T (expT T now n) := fun j _ => by
  unfold expT
  split
  · exact .inr (by show (T j).ve < (T j).ve + 1; omega)
  · exact .inl rfl
theorem Grw.put (T : Tb) (pr ia ip fa fp po st un : Int) : Grw T (putT T pr ia ip fa fp po st un).2.2 := by
  unfold putT
  repeat' split
  all_goals first | exact Grw.refl _ | exact Grw.lay _ _ _ _ _ _ _ _ _ _
theorem Grw.add (T : Tb) (low pr ia ip fa fp st un : Int) : Grw T (addT T low pr ia ip fa fp st un).2.2 := by
  unfold addT
  repeat' split
  all_goals first | exact Grw.refl _ | exact Grw.lay _ _ _ _ _ _ _ _ _ _
theorem Grw.set (T : Tb) (k st un : Int) : Grw T (setT T k st un) := by
  unfold setT
  split
  · exact Grw.upd _ (by show (T k.toNat).ve < (T k.toNat).ve + 1; omega)
  · exact Grw.refl _
theorem Grw.drop (T : Tb) (k : Int) : Grw T (dropT T k) := by
  unfold dropT
  split
  · exact Grw.lay _ _ _ _ _ _ _ _ _ _
  · exact Grw.refl _
theorem Grw.ad (now : Int) : ∀ (l : List Ce) (T : Tb), Grw T (adT now T l)
  | [], _ => Grw.refl _
  | _ :: l, _ => (Grw.put _ _ _ _ _ _ _ _ _).trans (Grw.ad now l _)
/-- versions from 0 on; a slot of version 0 never had a flow. -/
def VZ (T : Tb) : Prop := ∀ j, j < 32 → 0 ≤ (T j).ve ∧ ((T j).ve = 0 → T j = noC)
theorem VZ.new : VZ newT := fun _ _ => ⟨Int.le_refl _, fun _ => rfl⟩
theorem VZ.grw {T T' : Tb} (h : VZ T) (g : Grw T T') : VZ T' := fun j hj => by
  obtain ⟨a, b⟩ := h j hj
  rcases g j hj with e | e
  · rw [e]; exact ⟨a, b⟩
  · exact ⟨by omega, fun z => by omega⟩
/-- a mirror that has of each slot what it has, or older. -/
def Sub (M T : Tb) : Prop := ∀ j, j < 32 → (M j).ve ≤ (T j).ve ∧ ((M j).ve = (T j).ve → M j = T j)
theorem Sub.grw {M T T' : Tb} (h : Sub M T) (g : Grw T T') : Sub M T' := fun j hj => by
  obtain ⟨a, b⟩ := h j hj
  rcases g j hj with e | e
  · rw [e]; exact ⟨a, b⟩
  · exact ⟨by omega, fun z => by omega⟩
theorem Sub.new {T : Tb} (h : VZ T) : Sub newT T := fun j hj => ⟨(h j hj).1, fun e => ((h j hj).2 e.symm).symm⟩
/-- a cell that is told of a table as it is, or was. -/
def COk (T : Tb) (c : Tc) : Prop := okS c = true ∧ c.c.ve ≤ (T c.sl.toNat).ve ∧ (c.c.ve = (T c.sl.toNat).ve → c.c = T c.sl.toNat)
theorem COk.grw {T T' : Tb} {c : Tc} (h : COk T c) (g : Grw T T') : COk T' c := by
  obtain ⟨o, a, b⟩ := h
  have hj : c.sl.toNat < 32 := by have := okS_iff.1 o; omega
  rcases g _ hj with e | e
  · exact ⟨o, by rw [e]; exact a, by rw [e]; exact b⟩
  · exact ⟨o, by omega, fun z => by omega⟩
theorem Sub.take {M T : Tb} (h : Sub M T) {c : Tc} (hc : COk T c) : Sub (takeT M c) T := by
  obtain ⟨o, a, b⟩ := hc
  unfold takeT
  split
  · intro j hj
    unfold Go.Proofs.YtdboenalgahalaaGreatDoor.upd
    split
    · rename_i e; subst e; exact ⟨a, b⟩
    · exact h j hj
  · exact h
theorem Sub.takeL : ∀ (l : List Tc) {M T : Tb}, Sub M T → (∀ c ∈ l, COk T c) → Sub (takeL M l) T
  | [], _, _, h, _ => h
  | c :: l, _, _, h, hl => Sub.takeL l (h.take (hl c (by simp))) (fun d hd => hl d (by simp [hd]))
theorem ins_grw (x : No) (p : Pk) : Grw x.T (x.ins p).T ∧ (x.ins p).ml = x.ml ∧ (x.ins p).mt = x.mt := by
  unfold No.ins No.ou No.stp No.bg
  repeat' split
  all_goals first | exact ⟨Grw.refl _, rfl, rfl⟩ | exact ⟨Grw.drop _ _, rfl, rfl⟩ | exact ⟨Grw.set _ _ _ _, rfl, rfl⟩ | exact ⟨Grw.add _ _ _ _ _ _ _ _ _, rfl, rfl⟩
theorem ots_grw (x : No) (p : Pk) : Grw x.T (x.ots p).T ∧ (x.ots p).ml = x.ml ∧ (x.ots p).mt = x.mt := by
  unfold No.ots No.stp
  repeat' split
  all_goals first | exact ⟨Grw.refl _, rfl, rfl⟩ | exact ⟨Grw.drop _ _, rfl, rfl⟩ | exact ⟨Grw.set _ _ _ _, rfl, rfl⟩
theorem tk1_grw (x : No) : Grw x.T x.tk1.T := by
  have h1 : Grw x.T x.ticked.T := Grw.exp _ _ _
  unfold No.tk1
  split
  · unfold No.clm
    split
    · split
      · exact h1.trans (Grw.ad _ _ _)
      · exact h1
    · exact h1
  · exact h1
theorem tick_grw (x : No) : Grw x.T x.tick.T ∧ x.tick.ml = x.ml ∧ x.tick.mt = x.mt ∧ x.tick.life = x.life := by
  obtain ⟨_, _, t3, t4, _, t6, t7, _⟩ := tick_tk1 x
  have h : x.tk1.ml = x.ml ∧ x.tk1.mt = x.mt ∧ x.tk1.life = x.life := by
    unfold No.tk1 No.clm
    repeat' split
    all_goals exact ⟨rfl, rfl, rfl⟩
  exact ⟨by rw [t3]; exact tk1_grw x, t7.trans h.1, t4.trans h.2.1, t6.trans h.2.2⟩
/-- the last life of a node that was written. -/
def Wo.lif (W : Wo) (i : Nat) : Int := (newest (W.byt i).B).l
structure Mi (W : Wo) : Prop where
  nd : ∀ i x, W.nd i = some x → i < 2 ∧ VZ x.T ∧ 1 ≤ x.life ∧ x.life = W.lif i ∧ x.ml ≤ W.lif (1 - i)
  fl : ∀ t ∈ W.fl, (t.fr = 0 ∨ t.fr = 1) ∧ t.li ≤ W.lif t.fr.toNat
  nt : ∀ i x, W.nd i = some x → ∀ t ∈ W.fl, t.fr = i → t.li = x.life → ∀ c ∈ t.cs, COk x.T c
  mi : ∀ i x y, W.nd i = some x → W.nd (1 - i) = some y → y.ml = x.life → Sub y.mt x.T
theorem lif_up {W : Wo} {i : Nat} {x : No} (h : W.nd i = some x) : W.lif i = ((newest x.y.B).l : Int) := by unfold Wo.lif; rw [byt_up h]
theorem lif_set {W : Wo} {i j : Nat} {x : No} : ({ W with nd := setN W.nd i (some x) } : Wo).lif j = if j = i then ((newest x.y.B).l : Int) else W.lif j := by
  unfold Wo.lif
  rw [byt_set]
  split <;> rfl
/-- a node whose table grows. -/
theorem Mi.grow {W : Wo} (h : Mi W) {i : Nat} {x x' : No} (hx : W.nd i = some x) (g : Grw x.T x'.T) (hl : x'.life = x.life) (hm : x'.ml = x.ml) (ht : x'.mt = x.mt) (hy : (newest x'.y.B).l = (newest x.y.B).l) : Mi { W with nd := setN W.nd i (some x') } := by
  have hlif : ∀ j, ({ W with nd := setN W.nd i (some x') } : Wo).lif j = W.lif j := fun j => by
    rw [lif_set]
    split
    · rename_i e; subst e; rw [hy, lif_up hx]
    · rfl
  have hnd : ∀ j y, ({ W with nd := setN W.nd i (some x') } : Wo).nd j = some y → ∃ z, W.nd j = some z ∧ Grw z.T y.T ∧ y.life = z.life ∧ y.ml = z.ml ∧ y.mt = z.mt := fun j y hj => by
    have hj' : setN W.nd i (some x') j = some y := hj
    by_cases e : j = i
    · subst e; rw [setN_same] at hj'; cases hj'; exact ⟨x, hx, g, hl, hm, ht⟩
    · rw [setN_other _ _ e] at hj'; exact ⟨y, hj', Grw.refl _, rfl, rfl, rfl⟩
  refine ⟨fun j y hj => ?_, fun t ht' => ?_, fun j y hj t ht' hfr hli c hc => ?_, fun j y z hj hk hml => ?_⟩
  · obtain ⟨z, hz, g', e1, e2, _⟩ := hnd j y hj
    obtain ⟨a1, a2, a3, a4, a5⟩ := h.nd j z hz
    rw [hlif, hlif, e1, e2]
    exact ⟨a1, a2.grw g', a3, a4, a5⟩
  · rw [hlif]
    exact h.fl t ht'
  · obtain ⟨z, hz, g', e1, _⟩ := hnd j y hj
    exact (h.nt j z hz t ht' hfr (hli.trans e1) c hc).grw g'
  · obtain ⟨y0, hy0, g1, e1, _⟩ := hnd j y hj
    obtain ⟨z0, hz0, _, _, e3, e4⟩ := hnd (1 - j) z hk
    rw [e4]
    exact (h.mi j y0 z0 hy0 hz0 (by rw [← e3, hml, e1])).grw g1
theorem Mi.sent {W : Wo} (h : Mi W) {i : Nat} {x : No} (hx : W.nd i = some x) {l : List Nf} (hl : ∀ t ∈ l, t.fr = i ∧ t.li = x.life ∧ ∀ c ∈ t.cs, COk x.T c) : Mi (W.sent l) := by
  have hm : ∀ t, t ∈ (W.sent l).fl → t ∈ W.fl ∨ t ∈ l := fun t ht => by
    have ht' : t ∈ W.fl ++ l.take (200 - W.fl.length) := ht
    rcases List.mem_append.1 ht' with a | a
    · exact .inl a
    · exact .inr (List.mem_of_mem_take a)
  refine ⟨h.nd, fun t ht => ?_, fun j y hj t ht hfr hli c hc => ?_, h.mi⟩
  · rcases hm t ht with a | a
    · exact h.fl t a
    · obtain ⟨e1, e2, _⟩ := hl t a
      have hi := (h.nd i x hx).1
      refine ⟨by rw [e1]; omega, ?_⟩
      show t.li ≤ W.lif t.fr.toNat
      rw [e1, e2, Int.toNat_natCast, (h.nd i x hx).2.2.2.1]
      exact Int.le_refl _
  · rcases hm t ht with a | a
    · exact h.nt j y hj t a hfr hli c hc
    · obtain ⟨e1, e2, e3⟩ := hl t a
      have e4 : j = i := by rw [hfr] at e1; omega
      subst e4
      have hj' : W.nd j = some y := hj
      rw [hx] at hj'
      cases hj'
      exact e3 c hc
theorem lif_fallen {W : Wo} {i j : Nat} {y : By} : (W.fallen i y).lif j = if j = i then ((newest y.B).l : Int) else W.lif j := by
  unfold Wo.lif
  rw [byt_fallen]
  split <;> rfl
theorem Mi.fallen {W : Wo} (h : Mi W) {i : Nat} {y : By} (hl : ((newest y.B).l : Int) = W.lif i) : Mi (W.fallen i y) := by
  have hlif : ∀ j, (W.fallen i y).lif j = W.lif j := fun j => by
    rw [lif_fallen]
    split
    · rename_i e; subst e; exact hl
    · rfl
  have hnd : ∀ j z, (W.fallen i y).nd j = some z → W.nd j = some z := fun j z hz => by
    have hz' : setN W.nd i none j = some z := hz
    by_cases e : j = i
    · subst e; rw [setN_same] at hz'; cases hz'
    · rw [setN_other _ _ e] at hz'; exact hz'
  refine ⟨fun j z hz => ?_, fun t ht => ?_, fun j z hz t ht => ?_, fun j z u hz hu => ?_⟩
  · rw [hlif, hlif]; exact h.nd j z (hnd j z hz)
  · rw [hlif]; exact h.fl t ht
  · exact h.nt j z (hnd j z hz) t ht
  · exact h.mi j z u (hnd j z hz) (hnd _ u hu)
theorem Mi.flat {W : Wo} (h : Mi W) (l : List Nf) (hl : ∀ t ∈ l, t ∈ W.fl) : Mi { W with fl := l } := ⟨h.nd, fun t ht => h.fl t (hl t ht), fun i x hx t ht => h.nt i x hx t (hl t ht), h.mi⟩
theorem Mi.born {l : List Rl} (hr : RulesOk l) : Mi (Wo.born l) := by
  have hnd : ∀ i x, (Wo.born l).nd i = some x → i < 2 ∧ x = No.new i new0.oned l := fun i x hx => by
    have hx' : (if i < 2 then some (No.new i new0.oned l) else none) = some x := hx
    split at hx'
    · rename_i hi
      cases hx'
      exact ⟨hi, rfl⟩
    · cases hx'
  have e0 : newest new0.B = ⟨0, 0, 0⟩ := Beg.zero.nw
  have hlf : ∀ i, i < 2 → (Wo.born l).lif i = 1 := fun i hi => by
    have hx : (Wo.born l).nd i = some (No.new i new0.oned l) := by show (if i < 2 then some (No.new i new0.oned l) else none) = _; rw [if_pos hi]
    rw [lif_up hx, new_newest YI.zero (by omega) hi hr, e0]
    rfl
  have hlife : ∀ i, (No.new i new0.oned l).life = 1 := fun i => by
    show ((newest new0.oned.B).l : Int) + 1 = 1
    have : newest new0.oned.B = newest new0.B := rfl
    rw [this, e0]
    rfl
  refine ⟨fun i x hx => ?_, fun t ht => ?_, fun i x hx t ht => ?_, fun i x y hx hy hm => ?_⟩
  · obtain ⟨hi, rfl⟩ := hnd i x hx
    refine ⟨hi, VZ.new, by rw [hlife]; omega, by rw [hlife, hlf i hi], ?_⟩
    rw [hlf _ (by omega)]
    show (0 : Int) ≤ 1
    omega
  · have h' : t ∈ ([] : List Nf) := ht
    simp at h'
  · have h' : t ∈ ([] : List Nf) := ht
    simp at h'
  · obtain ⟨hi, rfl⟩ := hnd i x hx
    obtain ⟨hj, rfl⟩ := hnd _ y hy
    rw [hlife] at hm
    have hm' : (0 : Int) = 1 := hm
    omega
theorem Mi.tick {q : Nat} {W : Wo} (h : Mi W) (hI : In q W) (hA : Ap q W) (hq : q ≤ 900) (n : Int) : Mi (W.tcd n) := by
  unfold Wo.tcd
  split
  · cases hx : W.nd n.toNat with
    | none => exact h
    | some x =>
      have hX := hI.up _ x hx
      obtain ⟨hi, hp⟩ := hA.nd _ x hx
      obtain ⟨t1, t2', t3, t4, t5, t6, _⟩ := tick_tk1 x
      obtain ⟨g, gm, gt, gl⟩ := tick_grw x
      have hyl : (newest x.tick.y.B).l = (newest x.y.B).l := by
        rw [t5]
        rcases tk1_ways hX (by omega) with ⟨_, _, a3⟩ | ⟨_, _, _, _, a4⟩
        · rw [a3]
        · rw [a4]
          have := hX.li
          show x.life.toNat = _
          omega
      have h2 := h.grow hx g gl gm gt hyl
      have hfl : x.tkE = 0 → ∀ t ∈ x.tickL.map x.tk1.fly, t.fr = ((n.toNat : Nat) : Int) ∧ t.li = x.tick.life ∧ ∀ c ∈ t.cs, COk x.tick.T c := fun hE t ht => by
        obtain ⟨u, hu, rfl⟩ := List.mem_map.1 ht
        refine ⟨by show x.tk1.id = _; exact hp.tk1.id, t6.symm, fun c hc => ?_⟩
        obtain ⟨j, hj, rfl⟩ := List.mem_map.1 hc
        have hj32 : j < 32 := (tickL_fits x).2 u hu j hj
        have e1 : ((j : Nat) : Int).toNat = j := Int.toNat_natCast j
        refine ⟨okS_iff.2 ⟨by show (0 : Int) ≤ (j : Int); omega, by show (j : Int) < 32; omega⟩, ?_, ?_⟩
        · show (x.tk1.T j).ve ≤ (x.tick.T ((j : Nat) : Int).toNat).ve
          rw [e1, t3]; exact Int.le_refl _
        · intro _
          show x.tk1.T j = x.tick.T ((j : Nat) : Int).toNat
          rw [e1, t3]
      show Mi (W.ticked n.toNat x)
      unfold Wo.ticked
      split
      · rename_i hE
        split
        · have h3 : Mi (({ W with nd := setN W.nd n.toNat (some x.tick) } : Wo).noted (((n.toNat : Nat) : Int), x.tick.ro.ep)) := ⟨h2.nd, h2.fl, h2.nt, h2.mi⟩
          exact h3.sent (setN_same _ _ _) (hfl hE)
        · exact h2.sent (setN_same _ _ _) (hfl hE)
      · split
        · refine h.fallen ?_
          rw [hyl, lif_up hx]
        · exact h2
  · exact h
theorem Mi.down {W : Wo} (h : Mi W) (n : Int) : Mi (W.downed n) := by
  unfold Wo.downed
  split
  · cases hx : W.nd n.toNat with
    | none => exact h
    | some x => exact h.fallen (lif_up hx).symm
  · exact h
theorem Mi.upN {q : Nat} {W : Wo} (h : Mi W) (hI : In q W) (hq : q ≤ 900) (hr : RulesOk W.ru) (n : Int) : Mi (W.upped n) := by
  unfold Wo.upped
  split
  · rename_i e
    unfold Wo.roE at e
    split at e
    · rename_i h2
      split at e
      · omega
      · rename_i hs
        have hn : W.nd n.toNat = none := by cases hq2 : W.nd n.toNat with | none => rfl | some y => rw [hq2] at hs; simp at hs
        obtain ⟨i, hi⟩ : ∃ i, i = n.toNat := ⟨_, rfl⟩
        have hi2 : i < 2 := by omega
        rw [← hi] at hn
        show Mi (W.risen n.toNat)
        rw [← hi]
        have hnw := new_newest (i := i) (l := W.ru) (hI.dn i hi2 hn) (by omega) hi2 hr
        have hold : W.lif i = ((newest (W.yb i).B).l : Int) := by unfold Wo.lif; rw [byt_dn hn]
        have hlif : ∀ j, (W.risen i).lif j = if j = i then W.lif i + 1 else W.lif j := fun j => by
          show ({ W with nd := setN W.nd i (some (No.new i (W.yb i).oned W.ru)) } : Wo).lif j = _
          rw [lif_set, hnw, hold]
          split
          · show (((newest (W.yb i).B).l + 1 : Nat) : Int) = _
            omega
          · rfl
        have hlife : (No.new i (W.yb i).oned W.ru).life = W.lif i + 1 := by
          show ((newest (W.yb i).oned.B).l : Int) + 1 = _
          rw [hold]
          rfl
        have h0 : ∀ j, 0 ≤ W.lif j := fun j => by unfold Wo.lif; omega
        have hge : ∀ j, W.lif j ≤ (W.risen i).lif j := fun j => by
          rw [hlif]
          split
          · rename_i e; subst e; omega
          · exact Int.le_refl _
        have hnd : ∀ j z, (W.risen i).nd j = some z → (j = i ∧ z = No.new i (W.yb i).oned W.ru) ∨ (j ≠ i ∧ W.nd j = some z) := fun j z hz => by
          have hz' : setN W.nd i (some (No.new i (W.yb i).oned W.ru)) j = some z := hz
          by_cases e : j = i
          · subst e; rw [setN_same] at hz'; cases hz'; exact .inl ⟨rfl, rfl⟩
          · rw [setN_other _ _ e] at hz'; exact .inr ⟨e, hz'⟩
        refine ⟨fun j z hz => ?_, fun t ht => ?_, fun j z hz t ht hfr hli c hc => ?_, fun j z u hz hu hml => ?_⟩
        · rcases hnd j z hz with ⟨rfl, rfl⟩ | ⟨hne, hz'⟩
          · refine ⟨hi2, VZ.new, ?_, ?_, ?_⟩
            · rw [hlife]; have := h0 j; omega
            · rw [hlife, hlif, if_pos rfl]
            · show (0 : Int) ≤ _
              exact Int.le_trans (h0 (1 - j)) (hge (1 - j))
          · obtain ⟨a1, a2, a3, a4, a5⟩ := h.nd j z hz'
            exact ⟨a1, a2, a3, by rw [hlif, if_neg hne]; exact a4, Int.le_trans a5 (hge _)⟩
        · have := h.fl t ht
          exact ⟨this.1, Int.le_trans this.2 (hge _)⟩
        · rcases hnd j z hz with ⟨rfl, rfl⟩ | ⟨_, hz'⟩
          · have hf := (h.fl t ht).2
            rw [hfr, Int.toNat_natCast] at hf
            rw [hlife] at hli
            omega
          · exact h.nt j z hz' t ht hfr hli c hc
        · rcases hnd j z hz with ⟨rfl, rfl⟩ | ⟨hne, hz'⟩
          · rcases hnd _ u hu with ⟨e, _⟩ | ⟨_, hu'⟩
            · omega
            · have := (h.nd _ u hu').2.2.2.2
              rw [show 1 - (1 - j) = j by omega] at this
              rw [hlife] at hml
              omega
          · rcases hnd _ u hu with ⟨_, rfl⟩ | ⟨_, hu'⟩
            · have := (h.nd j z hz').2.2.1
              have hml' : (0 : Int) = z.life := hml
              omega
            · exact h.mi j z u hz' hu' hml
    · omega
  · exact h
theorem Mi.cut {W : Wo} (h : Mi W) (n m : Int) : Mi (W.cutted n m) := by
  unfold Wo.cutted
  split
  · cases hx : W.nd n.toNat with
    | none => exact h
    | some x =>
      have hB : (x.y.setCut m).B = x.y.B := by unfold By.setCut; split <;> rfl
      exact h.grow hx (Grw.refl _) rfl rfl rfl (by show (newest (x.y.setCut m).B).l = _; rw [hB])
  · exact h
theorem Mi.inside {W : Wo} (h : Mi W) (p : Pk) : Mi (W.ins p) := by
  unfold Wo.ins
  split
  · rename_i i x hc
    have s := ins_same2 x p
    have g := ins_grw x p
    exact h.grow (cho_some hc).2.1 g.1 s.2.1 g.2.1 g.2.2 (by rw [s.1])
  · exact h
theorem Mi.outside {W : Wo} (h : Mi W) (p : Pk) : Mi (W.ots p) := by
  unfold Wo.ots
  split
  · rename_i i x hc
    have s := ots_same2 x p
    have g := ots_grw x p
    exact h.grow (cho_some hc).2.1 g.1 s.2.1 g.2.1 g.2.2 (by rw [s.1])
  · exact h
theorem Mi.landed {W : Wo} (h : Mi W) (k : Nat) : Mi (W.landed k) := h.flat _ (fun _ ht => List.mem_of_mem_eraseIdx ht)
theorem Mi.drop {W : Wo} (h : Mi W) (n : Int) : Mi (W.dropped n) := by
  unfold Wo.dropped
  split
  · exact h.landed _
  · exact h
theorem Mi.twice {W : Wo} (h : Mi W) (n : Int) : Mi (W.twiced n) := by
  have h1 := h.flat (W.twiced n).fl Wo.twiced_mem
  have s := W.twiced_same n
  have e : W.twiced n = { W with fl := (W.twiced n).fl } := by
    obtain ⟨s1, s2, s3, s4, s5, s6⟩ := s
    generalize W.twiced n = V at *
    cases V
    cases W
    simp only at s1 s2 s3 s4 s5 s6
    subst s1 s2 s3 s4 s5 s6
    rfl
  rw [e]
  exact h1
theorem Mi.rules {W : Wo} (h : Mi W) (l : List Rl) (j : Nat) : Mi (W.ruledTo l j) := by
  have hnd : ∀ i x, (W.ruledTo l j).nd i = some x → ∃ y, W.nd i = some y ∧ x.life = y.life ∧ x.T = y.T ∧ x.mt = y.mt ∧ x.ml = y.ml := fun i x hx => by
    have hx' : (if i < j then (W.nd i).map (fun y => ({ y with ru := l } : No)) else W.nd i) = some x := hx
    split at hx'
    · obtain ⟨y, hy, rfl⟩ := Option.map_eq_some_iff.1 hx'
      exact ⟨y, hy, rfl, rfl, rfl, rfl⟩
    · exact ⟨x, hx', rfl, rfl, rfl, rfl⟩
  have hlif : ∀ i, (W.ruledTo l j).lif i = W.lif i := fun i => by unfold Wo.lif; rw [byt_ruled]
  refine ⟨fun i x hx => ?_, fun t ht => ?_, fun i x hx t ht hfr hli c hc => ?_, fun i x y hx hy hm => ?_⟩
  · obtain ⟨y, hy, e1, e2, e3, e4⟩ := hnd i x hx
    rw [hlif, hlif, e1, e2, e4]
    exact h.nd i y hy
  · rw [hlif]; exact h.fl t ht
  · obtain ⟨y, hy, e1, e2, _⟩ := hnd i x hx
    rw [e2]
    exact h.nt i y hy t ht hfr (by rw [← e1]; exact hli) c hc
  · obtain ⟨x0, hx0, e1, e2, _⟩ := hnd i x hx
    obtain ⟨y0, hy0, _, _, e3, e4⟩ := hnd _ y hy
    rw [e2, e3]
    exact h.mi i x0 y0 hx0 hy0 (by rw [← e4, hm, e1])
/-- a note is handed over: what becomes of the mirror. -/
theorem Mi.handed {W : Wo} (h : Mi W) {t : Nf} {i : Nat} (hi : i < 2) (hfr : t.fr = ((1 - i : Nat) : Int)) {y : No} (hy : W.nd i = some y) (hli : t.li ≤ W.lif (1 - i)) (hnt : ∀ x, W.nd (1 - i) = some x → t.li = x.life → ∀ c ∈ t.cs, COk x.T c) : Mi { W with nd := setN W.nd i (some (y.hrd t)) } := by
  have hsame : (y.hrd t).T = y.T ∧ (y.hrd t).life = y.life ∧ (y.hrd t).y = y.y := by unfold No.hrd; split <;> exact ⟨rfl, rfl, rfl⟩
  have hlif : ∀ j, ({ W with nd := setN W.nd i (some (y.hrd t)) } : Wo).lif j = W.lif j := fun j => by
    rw [lif_set]
    split
    · rename_i e; subst e; rw [hsame.2.2, lif_up hy]
    · rfl
  obtain ⟨b1, b2, b3, b4, b5⟩ := h.nd i y hy
  have hnd : ∀ j z, ({ W with nd := setN W.nd i (some (y.hrd t)) } : Wo).nd j = some z → (j = i ∧ z = y.hrd t) ∨ (j ≠ i ∧ W.nd j = some z) := fun j z hz => by
    have hz' : setN W.nd i (some (y.hrd t)) j = some z := hz
    by_cases e : j = i
    · subst e; rw [setN_same] at hz'; cases hz'; exact .inl ⟨rfl, rfl⟩
    · rw [setN_other _ _ e] at hz'; exact .inr ⟨e, hz'⟩
  have hml : (y.hrd t).ml ≤ W.lif (1 - i) := by
    unfold No.hrd
    split
    · show tellLife y.ml t.li t.cs ≤ _
      unfold tellLife
      split
      · exact hli
      · exact b5
    · exact b5
  refine ⟨fun j z hz => ?_, fun u hu => ?_, fun j z hz u hu hf hl c hc => ?_, fun j z u hz hu hm => ?_⟩
  · rw [hlif, hlif]
    rcases hnd j z hz with ⟨rfl, rfl⟩ | ⟨_, hz'⟩
    · rw [hsame.1, hsame.2.1]
      exact ⟨b1, b2, b3, b4, hml⟩
    · exact h.nd j z hz'
  · rw [hlif]; exact h.fl u hu
  · rcases hnd j z hz with ⟨rfl, rfl⟩ | ⟨_, hz'⟩
    · rw [hsame.1]
      rw [hsame.2.1] at hl
      exact h.nt j y hy u hu hf hl c hc
    · exact h.nt j z hz' u hu hf hl c hc
  · rcases hnd j z hz with ⟨rfl, rfl⟩ | ⟨hne, hz'⟩
    · rcases hnd _ u hu with ⟨e, _⟩ | ⟨_, hu'⟩
      · omega
      · rw [hsame.1]
        rw [hsame.2.1] at hm
        exact h.mi j y u hy hu' hm
    · rcases hnd _ u hu with ⟨e, rfl⟩ | ⟨_, hu'⟩
      · have hj : j = 1 - i := by have := (h.nd j z hz').1; omega
        subst hj
        have hold : y.ml = z.life → Sub y.mt z.T := fun e2 => h.mi (1 - i) z y hz' (by rw [show 1 - (1 - i) = i by omega]; exact hy) e2
        unfold No.hrd at hm ⊢
        split at hm
        · rename_i he
          rw [if_pos he]
          have hte : tellE y.ml t.li t.cs = 0 := by
            unfold No.heE at he
            split at he
            · split at he
              · cases he
              · exact he
            · cases he
          have hm' : tellLife y.ml t.li t.cs = z.life := hm
          unfold tellLife at hm'
          rw [if_pos hte] at hm'
          show Sub (tellT y.ml t.li y.mt t.cs) z.T
          unfold tellT
          rw [if_pos hte]
          refine Sub.takeL _ ?_ (hnt z hz' hm')
          split
          · exact Sub.new (h.nd _ z hz').2.1
          · rename_i hlt
            refine hold ?_
            have : ¬ t.li < y.ml := by
              unfold tellE at hte
              split at hte
              · cases hte
              · split at hte
                · cases hte
                · assumption
            omega
        · rename_i he
          rw [if_neg he]
          exact hold hm
      · exact h.mi j z u hz' hu' hm
theorem Mi.dlv {W : Wo} (h : Mi W) (n : Int) : Mi (W.dlv n) := by
  unfold Wo.dlv
  split
  · cases ht : W.fl[n.toNat]? with
    | none => exact h
    | some t =>
      have hm := List.mem_of_getElem? ht
      have h1 := h.landed n.toNat
      show Mi (W.delivered n.toNat t)
      unfold Wo.delivered
      split
      · unfold Wo.heard
        split
        · exact ⟨h1.nd, h1.fl, h1.nt, h1.mi⟩
        · exact h1
      · unfold Wo.handed
        obtain ⟨f1, f2⟩ := h.fl t hm
        obtain ⟨i, hi, hfr, hto⟩ : ∃ i : Nat, i < 2 ∧ t.fr = ((1 - i : Nat) : Int) ∧ (1 - t.fr).toNat = i := by
          rcases f1 with e | e
          · exact ⟨1, by omega, by rw [e]; rfl, by rw [e]; rfl⟩
          · exact ⟨0, by omega, by rw [e]; rfl, by rw [e]; rfl⟩
        rw [hto]
        have e1 : t.fr.toNat = 1 - i := by rw [hfr]; exact Int.toNat_natCast _
        rw [e1] at f2
        show Mi (match W.nd i with | some x => ({ W.landed n.toNat with nd := setN W.nd i (some (x.hrd t)) } : Wo) | none => W.landed n.toNat)
        cases hy : W.nd i with
        | none => exact h1
        | some y => exact h1.handed hi hfr (show (W.landed n.toNat).nd i = some y from hy) f2 (fun x hx hl => h.nt (1 - i) x hx t hm hfr hl)
  · exact h
theorem Mi.stp {q : Nat} {W W' : Wo} (h : Mi W) (hI : In q W) (hA : Ap q W) (hq : q ≤ 900) (hr : RulesOk W.ru) (s : Stp W W') : Mi W' := by
  cases s with
  | tick n => exact h.tick hI hA hq n
  | down n => exact h.down n
  | up n => exact h.upN hI hq hr n
  | cut n m => exact h.cut n m
  | ins p => exact h.inside p
  | ots p => exact h.outside p
  | drop n => exact h.drop n
  | twice n => exact h.twice n
  | rules l hl => exact h.rules l 2
  | dlv n => exact h.dlv n
  | stay => exact h
end Go.Proofs.YtdboenalgahalaaGreatDoor

namespace Go.Proofs.YtdboenalgahalaaGreatDoor
open Go.RowKit

/-- the first note is delivered, so often. -/
def dl : Nat → Wo → Wo
  | 0, W => W
  | d + 1, W => (dl d W).dlv 0
theorem dlv_nil {W : Wo} (h : W.fl = []) : W.dlv 0 = W := by
  unfold Wo.dlv Wo.flE
  rw [h, if_neg (by simp)]
theorem dl_nil {W : Wo} (h : W.fl = []) : ∀ d, dl d W = W
  | 0 => rfl
  | d + 1 => by rw [dl, dl_nil h d, dlv_nil h]
theorem dl_succ (W : Wo) : ∀ d, dl (d + 1) W = dl d (W.dlv 0)
  | 0 => rfl
  | d + 1 => by rw [dl, dl_succ W d, dl]
theorem dlv_cons {W : Wo} {t : Nf} {l : List Nf} (h : W.fl = t :: l) : W.dlv 0 = W.delivered 0 t := by
  unfold Wo.dlv Wo.flE
  rw [h, if_pos (by rw [if_pos]; simp)]
  rfl
theorem heard_same (W : Wo) (t : Nf) : (W.heard t).nd = W.nd ∧ (W.heard t).fl = W.fl ∧ (W.heard t).ru = W.ru := by
  unfold Wo.heard
  split <;> exact ⟨rfl, rfl, rfl⟩
theorem handed_same (W : Wo) (t : Nf) : (W.handed t).fl = W.fl ∧ (W.handed t).hn = W.hn ∧ (W.handed t).he = W.he ∧ (W.handed t).ru = W.ru := by
  unfold Wo.handed
  split <;> exact ⟨rfl, rfl, rfl, rfl⟩
/-- what the switch knows behind a claim. -/
def swN (n e : Int) (t : Nf) : Int := if e < t.ep then t.fr else n
def swE (e : Int) (t : Nf) : Int := if e < t.ep then t.ep else e
theorem heard_sw (W : Wo) (t : Nf) : (W.heard t).hn = swN W.hn W.he t ∧ (W.heard t).he = swE W.he t := by
  unfold Wo.heard swN swE
  split <;> exact ⟨rfl, rfl⟩
/-- half of a round: node i ticks, and all comes. -/
def half (i : Nat) (W : Wo) : Wo := dl 8 (W.tcd (i : Int))
section
variable {V : Wo} {i : Nat} {x : No}
theorem tcd_up (hi : i < 2) (hx : V.nd i = some x) (hE : x.tkE = 0) : V.tcE (i : Int) = 0 ∧ V.tcd (i : Int) = V.ticked i x := by
  have hup : V.upE (i : Int) = 0 := by unfold Wo.upE; rw [if_pos (by omega), Int.toNat_natCast, hx]; rfl
  exact ⟨by unfold Wo.tcE; rw [if_pos hup, Int.toNat_natCast, hx]; exact hE, by unfold Wo.tcd; rw [if_pos hup, Int.toNat_natCast, hx]⟩
theorem ticked_is (hE : x.tkE = 0) (hf : V.fl = []) {l : List Nf} (hl : x.tickL.map x.tk1.fly = l) (h8 : l.length ≤ 200) : (V.ticked i x).nd = setN V.nd i (some x.tick) ∧ (V.ticked i x).fl = l ∧ (V.ticked i x).hn = V.hn ∧ (V.ticked i x).he = V.he ∧ (V.ticked i x).ru = V.ru := by
  unfold Wo.ticked
  rw [if_pos hE, hl]
  have ht : l.take (200 - V.fl.length) = l := by rw [hf]; exact List.take_of_length_le (by simpa using h8)
  split
  · refine ⟨rfl, ?_, rfl, rfl, rfl⟩
    show V.fl ++ l.take (200 - V.fl.length) = l
    rw [ht, hf]; rfl
  · refine ⟨rfl, ?_, rfl, rfl, rfl⟩
    show V.fl ++ l.take (200 - V.fl.length) = l
    rw [ht, hf]; rfl
/-- nothing is said. -/
theorem half_quiet (hi : i < 2) (hx : V.nd i = some x) (hf : V.fl = []) (hE : x.tkE = 0) (hl : x.tickL.map x.tk1.fly = []) : (half i V).nd = setN V.nd i (some x.tick) ∧ (half i V).fl = [] ∧ (half i V).hn = V.hn ∧ (half i V).he = V.he := by
  have k := ticked_is (i := i) hE hf hl (by simp)
  unfold half
  rw [(tcd_up hi hx hE).2, dl_nil k.2.1]
  exact ⟨k.1, k.2.1, k.2.2.1, k.2.2.2.1⟩
/-- a claim is said. -/
theorem half_claim (hi : i < 2) (hx : V.nd i = some x) (hf : V.fl = []) (hE : x.tkE = 0) {t : Nf} (hc : t.cl = true) (hl : x.tickL.map x.tk1.fly = [t]) : (half i V).nd = setN V.nd i (some x.tick) ∧ (half i V).fl = [] ∧ (half i V).hn = swN V.hn V.he t ∧ (half i V).he = swE V.he t := by
  obtain ⟨k1, k2, k3, k4, k5⟩ := ticked_is (i := i) hE hf hl (by simp)
  unfold half
  rw [(tcd_up hi hx hE).2, dl_succ, dlv_cons k2]
  have e : (V.ticked i x).delivered 0 t = ((V.ticked i x).landed 0).heard t := by unfold Wo.delivered; rw [if_pos hc]
  have hs := heard_same ((V.ticked i x).landed 0) t
  have hw := heard_sw ((V.ticked i x).landed 0) t
  have f1 : ((V.ticked i x).landed 0).fl = [] := by show (V.ticked i x).fl.eraseIdx 0 = []; rw [k2]; rfl
  rw [e, dl_nil (hs.2.1.trans f1)]
  refine ⟨hs.1.trans k1, hs.2.1.trans f1, ?_, ?_⟩
  · rw [hw.1]; show swN (V.ticked i x).hn (V.ticked i x).he t = _; rw [k3, k4]
  · rw [hw.2]; show swE (V.ticked i x).he t = _; rw [k4]
/-- a claim is said, and cells to the other one. -/
theorem half_both (hi : i < 2) (hx : V.nd i = some x) {y : No} (hy : V.nd (1 - i) = some y) (hf : V.fl = []) (hE : x.tkE = 0) {t u : Nf} (hc : t.cl = true) (hu : u.cl = false) (hfr : u.fr = i) (hl : x.tickL.map x.tk1.fly = [t, u]) : (half i V).nd = setN (setN V.nd i (some x.tick)) (1 - i) (some (y.hrd u)) ∧ (half i V).fl = [] ∧ (half i V).hn = swN V.hn V.he t ∧ (half i V).he = swE V.he t := by
  obtain ⟨k1, k2, k3, k4, k5⟩ := ticked_is (i := i) hE hf hl (by simp)
  unfold half
  rw [(tcd_up hi hx hE).2, dl_succ, dlv_cons k2, dl_succ]
  have e : (V.ticked i x).delivered 0 t = ((V.ticked i x).landed 0).heard t := by unfold Wo.delivered; rw [if_pos hc]
  have hs := heard_same ((V.ticked i x).landed 0) t
  have hw := heard_sw ((V.ticked i x).landed 0) t
  have f1 : ((V.ticked i x).landed 0).fl = [u] := by show (V.ticked i x).fl.eraseIdx 0 = [u]; rw [k2]; rfl
  have h1 : (((V.ticked i x).landed 0).heard t).hn = swN V.hn V.he t := by rw [hw.1]; show swN (V.ticked i x).hn (V.ticked i x).he t = _; rw [k3, k4]
  have h2 : (((V.ticked i x).landed 0).heard t).he = swE V.he t := by rw [hw.2]; show swE (V.ticked i x).he t = _; rw [k4]
  have h3 : (((V.ticked i x).landed 0).heard t).nd = setN V.nd i (some x.tick) := hs.1.trans k1
  have h4 : (((V.ticked i x).landed 0).heard t).fl = [u] := hs.2.1.trans f1
  rw [e]
  generalize ((V.ticked i x).landed 0).heard t = U at *
  rw [dlv_cons h4]
  have e2 : U.delivered 0 u = (U.landed 0).handed u := by unfold Wo.delivered; rw [hu, if_neg (by simp)]
  have s2 := handed_same (U.landed 0) u
  have f2 : (U.landed 0).fl = [] := by show U.fl.eraseIdx 0 = []; rw [h4]; rfl
  have hto : (1 - u.fr).toNat = 1 - i := by rw [hfr]; omega
  have hnd : U.nd (1 - i) = some y := by rw [h3, setN_other _ _ (by omega)]; exact hy
  rw [e2, dl_nil (s2.1.trans f2)]
  refine ⟨?_, s2.1.trans f2, ?_, ?_⟩
  · unfold Wo.handed
    rw [hto]
    show (match U.nd (1 - i) with | some z => ({ U.landed 0 with nd := setN U.nd (1 - i) (some (z.hrd u)) } : Wo) | none => U.landed 0).nd = _
    rw [hnd, h3]
  · rw [s2.2.1]; exact h1
  · rw [s2.2.2.1]; exact h2
end
/-- a node without flows, that was told of none. -/
structure Em (i : Nat) (L M n : Int) (x : No) : Prop where
  id : x.id = i
  li : x.life = L
  now : x.now = n
  T : x.T = newT
  mt : x.mt = newT
  ml : x.ml ≤ M
  nd : x.ro.nd = i
theorem tk1_ml (x : No) : x.tk1.ml = x.ml ∧ x.tk1.now = x.now + 1 ∧ x.tk1.life = x.life ∧ x.tk1.mt = x.mt ∧ x.tk1.id = x.id := by
  unfold No.tk1 No.clm
  repeat' split
  all_goals exact ⟨rfl, rfl, rfl, rfl, rfl⟩
theorem takeL_new : ∀ (l : List Tc), (∀ c ∈ l, c.c = noC) → takeL newT l = newT
  | [], _ => rfl
  | c :: l, h => by
    have e : takeT newT c = newT := by
      unfold takeT
      rw [h c (by simp), if_neg]
      show ¬ (0 : Int) < 0
      omega
    show takeL (takeT newT c) l = newT
    rw [e]
    exact takeL_new l (fun d hd => h d (by simp [hd]))
theorem tellT_new (old life : Int) (l : List Tc) (h : ∀ c ∈ l, c.c = noC) : tellT old life newT l = newT := by
  unfold tellT
  split
  · have e : (if old < life then newT else newT) = newT := by split <;> rfl
    rw [e]
    exact takeL_new l h
  · rfl
/-- a standby ticks. -/
theorem Em.sby {i : Nat} {L M n : Int} {x : No} (h : Em i L M n x) (ha : x.ro.ac = false) (hs : x.ro.si ≤ 8) : x.tkE = 0 ∧ Em i L M (n + 1) x.tick ∧ x.tick.ro = ⟨x.ro.nd, x.ro.ep, x.ro.si + 1, false⟩ ∧ x.tickL.map x.tk1.fly = [] := by
  have htk : x.ro.tick = ⟨x.ro.nd, x.ro.ep, x.ro.si + 1, false⟩ := by
    unfold Ro.tick Ro.tickS
    rw [ha, if_neg (by simp), if_pos (by omega)]
  have hring : x.ro.rings = false := by
    unfold Ro.rings Ro.tickS
    rw [ha, if_neg (by simp), if_pos (by omega)]
    exact decide_eq_false (by omega)
  have hE : x.tkE = 0 := by unfold No.tkE; rw [hring]; rfl
  have hk : x.tk1 = x.ticked := by unfold No.tk1; rw [hring]; rfl
  obtain ⟨t1, t2', t3, t4, t5, t6, t7, t8⟩ := tick_tk1 x
  have hT : x.ticked.T = newT := by show expT x.T _ 32 = _; rw [h.T, expT_new]
  have hro : x.tick.ro = ⟨x.ro.nd, x.ro.ep, x.ro.si + 1, false⟩ := by rw [t2', hk]; exact htk
  refine ⟨hE, ⟨?_, ?_, ?_, ?_, ?_, ?_, ?_⟩, hro, ?_⟩
  · rw [t1, hk]; exact h.id
  · rw [t6, hk]; exact h.li
  · rw [t8, hk]; show x.now + 1 = n + 1; rw [h.now]
  · rw [t3, hk]; exact hT
  · rw [t4, hk]; exact h.mt
  · rw [t7, hk]; exact h.ml
  · rw [hro]; exact h.nd
  · have : x.tickL = [] := by
      unfold No.tickL No.notes
      rw [if_pos hE, hk]
      show (if x.ro.tick.ac then _ else []) = _
      rw [htk]
      rfl
    rw [this]
    rfl
/-- an active one ticks. -/
theorem Em.act {i : Nat} {L M n : Int} {x : No} (h : Em i L M n x) (ha : x.ro.ac = true) : x.tkE = 0 ∧ Em i L M (n + 1) x.tick ∧ x.tick.ro = x.ro ∧ (((n + 1) % 3 ≠ 0 ∧ x.tickL.map x.tk1.fly = []) ∨ ((n + 1) % 3 = 0 ∧ ∃ cs : List Tc, cs.length ≤ 8 ∧ (∀ c ∈ cs, okS c = true ∧ c.c = noC) ∧ x.tickL.map x.tk1.fly = [⟨i, L, x.ro.ep, true, []⟩, ⟨i, L, x.ro.ep, false, cs⟩])) := by
  have htk : x.ro.tick = x.ro := by unfold Ro.tick; rw [if_pos ha]
  have hring : x.ro.rings = false := by unfold Ro.rings; rw [if_pos ha]
  have hE : x.tkE = 0 := by unfold No.tkE; rw [hring]; rfl
  have hk : x.tk1 = x.ticked := by unfold No.tk1; rw [hring]; rfl
  obtain ⟨t1, t2', t3, t4, t5, t6, t7, t8⟩ := tick_tk1 x
  have hT : x.ticked.T = newT := by show expT x.T _ 32 = _; rw [h.T, expT_new]
  have hro : x.tick.ro = x.ro := by rw [t2', hk]; exact htk
  refine ⟨hE, ⟨?_, ?_, ?_, ?_, ?_, ?_, ?_⟩, hro, ?_⟩
  · rw [t1, hk]; exact h.id
  · rw [t6, hk]; exact h.li
  · rw [t8, hk]; show x.now + 1 = n + 1; rw [h.now]
  · rw [t3, hk]; exact hT
  · rw [t4, hk]; exact h.mt
  · rw [t7, hk]; exact h.ml
  · rw [hro]; exact h.nd
  · have hacT : x.ticked.ro.ac = true := by show x.ro.tick.ac = true; rw [htk]; exact ha
    have hepT : x.ticked.ro.ep = x.ro.ep := by show x.ro.tick.ep = _; rw [htk]
    have hnow : x.ticked.now = n + 1 := by show x.now + 1 = _; rw [h.now]
    have hL : x.tickL = (if x.ticked.due then [⟨true, []⟩] else []) ++ (if x.ticked.due then [⟨false, nxL x.ticked.T x.ticked.D x.ticked.cu⟩] else []) := by
      unfold No.tickL No.notes
      rw [if_pos hE, hk, if_pos hacT, ha]
      rfl
    by_cases h3 : (n + 1) % 3 = 0
    · have hd : x.ticked.due = true := by unfold No.due; rw [hnow]; exact decide_eq_true h3
      have hsp := nx_spec x.ticked.T x.ticked.D x.ticked.cu
      refine .inr ⟨h3, (nxL x.ticked.T x.ticked.D x.ticked.cu).map (fun (j : Nat) => (⟨(j : Int), x.ticked.T j⟩ : Tc)), by rw [List.length_map, hsp.len]; omega, fun c hc => ?_, ?_⟩
      · obtain ⟨j, hj, rfl⟩ := List.mem_map.1 hc
        have := hsp.lt j hj
        exact ⟨okS_iff.2 ⟨by show (0 : Int) ≤ (j : Int); omega, by show (j : Int) < 32; omega⟩, by show x.ticked.T j = noC; rw [hT]; rfl⟩
      · rw [hL, hd, hk]
        show [x.ticked.fly ⟨true, []⟩, x.ticked.fly ⟨false, nxL x.ticked.T x.ticked.D x.ticked.cu⟩] = _
        unfold No.fly
        rw [show x.ticked.id = i from h.id, show x.ticked.life = L from h.li, hepT]
        rfl
    · have hd : x.ticked.due = false := by unfold No.due; rw [hnow]; exact decide_eq_false h3
      exact .inl ⟨h3, by rw [hL, hd]; rfl⟩
/-- a node hears that there is nothing. -/
theorem Em.hear {i : Nat} {L M n : Int} {x : No} (h : Em i L M n x) {ep : Int} {cs : List Tc} (hi : i < 2) (h1 : 1 ≤ M) (h0 : 0 ≤ ep) (hep : ep ≤ 1073741824) (hc : cs.length ≤ 8) (hcs : ∀ c ∈ cs, okS c = true ∧ c.c = noC) : Em i L M n (x.hrd ⟨((1 - i : Nat) : Int), M, ep, false, cs⟩) ∧ (x.hrd ⟨((1 - i : Nat) : Int), M, ep, false, cs⟩).ro = x.ro.hear ep := by
  have hml := h.ml
  have hte : tellE x.ml M cs = 0 := by
    unfold tellE
    rw [if_neg, if_neg (by omega)]
    rintro (a | a | a)
    · omega
    · omega
    · obtain ⟨c, hm, hq⟩ := List.any_eq_true.1 a
      rw [(hcs c hm).1] at hq
      cases hq
  have he : x.heE ⟨((1 - i : Nat) : Int), M, ep, false, cs⟩ = 0 := by
    unfold No.heE
    rw [if_pos ⟨by show ((1 - i : Nat) : Int) = 1 - x.id; rw [h.id]; omega, h0, hep⟩]
    exact hte
  have hx : x.hrd ⟨((1 - i : Nat) : Int), M, ep, false, cs⟩ = { x with ml := tellLife x.ml M cs, mt := tellT x.ml M x.mt cs, ro := x.ro.hear ep } := by
    unfold No.hrd
    rw [if_pos he]
  rw [hx]
  refine ⟨⟨h.id, h.li, h.now, h.T, ?_, ?_, ?_⟩, rfl⟩
  · show tellT x.ml M x.mt cs = newT
    rw [h.mt]
    exact tellT_new _ _ _ (fun c hm => (hcs c hm).2)
  · show tellLife x.ml M cs ≤ M
    unfold tellLife
    rw [if_pos hte]
    exact Int.le_refl _
  · show (x.ro.hear ep).nd = i
    unfold Ro.hear
    split
    · exact h.nd
    · exact h.nd
end Go.Proofs.YtdboenalgahalaaGreatDoor

namespace Go.Proofs.YtdboenalgahalaaGreatDoor
open Go.RowKit

theorem dl_more {V : Wo} {k : Nat} (h : (dl k V).fl = []) : ∀ m, dl (k + m) V = dl k V
  | 0 => rfl
  | m + 1 => by
    show (dl (k + m) V).dlv 0 = _
    rw [dl_more h m, dlv_nil h]
theorem dlv_fl (W : Wo) : (W.dlv 0).fl = W.fl.eraseIdx 0 := by
  cases hf : W.fl with
  | nil => rw [dlv_nil hf, hf]; rfl
  | cons t l =>
    rw [dlv_cons hf]
    unfold Wo.delivered
    split
    · rw [(heard_same _ t).2.1]; show W.fl.eraseIdx 0 = _; rw [hf]
    · rw [(handed_same _ t).1]; show W.fl.eraseIdx 0 = _; rw [hf]
theorem dl_fl (V : Wo) : ∀ k, (dl k V).fl.length = V.fl.length - k
  | 0 => rfl
  | k + 1 => by
    show ((dl k V).dlv 0).fl.length = _
    rw [dlv_fl]
    have := dl_fl V k
    by_cases h : (dl k V).fl = []
    · rw [h] at this ⊢
      simp at this ⊢
      omega
    · rw [List.length_eraseIdx_of_lt (by have := List.length_pos_iff.2 h; omega)]
      omega
theorem dl_all (V : Wo) {k : Nat} (hk : V.fl.length ≤ k) : (dl k V).fl = [] := List.length_eq_zero_iff.1 (by rw [dl_fl]; omega)
/-- a node ticks, and all is delivered. -/
def rnd (n : Nat) (W : Wo) : Wo := dl (W.tcd (n : Int)).fl.length (W.tcd (n : Int))
def rnds (n : Nat) : Nat → Wo → Wo
  | 0, W => W
  | r + 1, W => rnd n (rnds n r W)
theorem rnd_half {n : Nat} {W : Wo} (h : (W.tcd (n : Int)).fl.length ≤ 8) : rnd n W = half n W := by
  unfold rnd half
  have := dl_more (dl_all (W.tcd (n : Int)) (Nat.le_refl _)) (8 - (W.tcd (n : Int)).fl.length)
  rw [show (W.tcd (n : Int)).fl.length + (8 - (W.tcd (n : Int)).fl.length) = 8 by omega] at this
  exact this.symm
/-- what a node that is active tells. -/
def tolds (T : Tb) (D : To) (c : Nat) : List Tc := (nxL T D c).map fun (j : Nat) => (⟨(j : Int), T j⟩ : Tc)
theorem act_gen {x : No} (ha : x.ro.ac = true) : x.tkE = 0 ∧ x.tick.ro = x.ro ∧ x.tick.T = expT x.T (x.now + 1) 32 ∧ x.tick.now = x.now + 1 ∧ x.tick.life = x.life ∧ x.tick.id = x.id ∧ (((x.now + 1) % 3 ≠ 0 ∧ x.tickL.map x.tk1.fly = [] ∧ x.tick.D = x.D ∧ x.tick.cu = x.cu) ∨ ((x.now + 1) % 3 = 0 ∧ x.tickL.map x.tk1.fly = [⟨x.id, x.life, x.ro.ep, true, []⟩, ⟨x.id, x.life, x.ro.ep, false, tolds x.tick.T x.D x.cu⟩] ∧ x.tick.D = toldD x.tick.T x.D (nxL x.tick.T x.D x.cu) ∧ x.tick.cu = nxC x.tick.T x.D x.cu)) := by
  have htk : x.ro.tick = x.ro := by unfold Ro.tick; rw [if_pos ha]
  have hring : x.ro.rings = false := by unfold Ro.rings; rw [if_pos ha]
  have hE : x.tkE = 0 := by unfold No.tkE; rw [hring]; rfl
  have hk : x.tk1 = x.ticked := by unfold No.tk1; rw [hring]; rfl
  have ht : x.tick = x.ticked.noted := by unfold No.tick; rw [if_pos hE, hk]
  obtain ⟨t1, t2', t3, t4, t5, t6, t7, t8⟩ := tick_tk1 x
  rw [hk] at t1 t2' t3 t6 t8
  have hT : x.tick.T = expT x.T (x.now + 1) 32 := t3
  refine ⟨hE, t2'.trans htk, hT, t8, t6, t1, ?_⟩
  have hacT : x.ticked.ro.ac = true := by show x.ro.tick.ac = true; rw [htk]; exact ha
  have hepT : x.ticked.ro.ep = x.ro.ep := by show x.ro.tick.ep = _; rw [htk]
  have hL : x.tickL = (if x.ticked.due then [⟨true, []⟩] else []) ++ (if x.ticked.due then [⟨false, nxL x.ticked.T x.ticked.D x.ticked.cu⟩] else []) := by
    unfold No.tickL No.notes
    rw [if_pos hE, hk, if_pos hacT, ha]
    rfl
  by_cases h3 : (x.now + 1) % 3 = 0
  · have hd : x.ticked.due = true := by unfold No.due; exact decide_eq_true h3
    refine .inr ⟨h3, ?_, ?_, ?_⟩
    · rw [hL, hd, hk]
      show [x.ticked.fly ⟨true, []⟩, x.ticked.fly ⟨false, nxL x.ticked.T x.ticked.D x.ticked.cu⟩] = _
      unfold No.fly tolds
      rw [hepT, hT]
      rfl
    · rw [ht]
      unfold No.noted
      rw [hacT, hd]
      rfl
    · rw [ht]
      unfold No.noted
      rw [hacT, hd]
      rfl
  · have hd : x.ticked.due = false := by unfold No.due; exact decide_eq_false h3
    refine .inl ⟨h3, by rw [hL, hd]; rfl, ?_, ?_⟩
    · rw [ht]; unfold No.noted; rw [hd, Bool.and_false]; rfl
    · rw [ht]; unfold No.noted; rw [hd, Bool.and_false]; rfl
/-- a node that is active, the other one, and nothing on its way. -/
structure Sa (q n : Nat) (W : Wo) (x y : No) : Prop where
  nx : W.nd n = some x
  ny : W.nd (1 - n) = some y
  fl : W.fl = []
  ac : x.ro.ac = true
  mi : Mi W
  ap : Ap q W
  iq : In q W
theorem Ap.dl {q : Nat} {W : Wo} (h : Ap q W) : ∀ d, Ap q (dl d W)
  | 0 => h
  | d + 1 => (Ap.dl h d).dlv 0
theorem In.dl {q : Nat} {W : Wo} (h : In q W) : ∀ d, In q (dl d W)
  | 0 => h
  | d + 1 => (In.dl h d).dlv 0
theorem Mi.dl {W : Wo} (h : Mi W) : ∀ d, Mi (dl d W)
  | 0 => h
  | d + 1 => (Mi.dl h d).dlv 0
theorem Sa.step {q n : Nat} {W : Wo} {x y : No} (h : Sa q n W x y) (hn : n < 2) (hq : q ≤ 800) : W.tcE (n : Int) = 0 ∧ ∃ y', Sa (q + 1) n (rnd n W) x.tick y' ∧ (((x.now + 1) % 3 ≠ 0 ∧ y' = y ∧ x.tick.D = x.D ∧ x.tick.cu = x.cu) ∨ ((x.now + 1) % 3 = 0 ∧ y' = y.hrd ⟨n, x.life, x.ro.ep, false, tolds x.tick.T x.D x.cu⟩ ∧ x.tick.D = toldD x.tick.T x.D (nxL x.tick.T x.D x.cu) ∧ x.tick.cu = nxC x.tick.T x.D x.cu)) := by
  obtain ⟨hE, hro, hT, hnow, hli, hid, hc⟩ := act_gen h.ac
  have hidx : x.id = (n : Int) := (h.ap.nd n x h.nx).2.id
  have htc := tcd_up hn h.nx hE
  have hac : x.tick.ro.ac = true := by rw [hro]; exact h.ac
  have m1 := h.mi.tick h.iq h.ap (by omega) (n : Int)
  have a1 := h.ap.tick h.iq (by omega) (n : Int)
  have i1 := h.iq.tick (by omega) (n : Int)
  refine ⟨htc.1, ?_⟩
  rcases hc with ⟨c1, c2, c3, c4⟩ | ⟨c1, c2, c3, c4⟩
  · have k := half_quiet hn h.nx h.fl hE c2
    have hlen : (W.tcd (n : Int)).fl.length ≤ 8 := by
      rw [htc.2, (ticked_is (i := n) hE h.fl c2 (by simp)).2.1]
      simp
    have hr := rnd_half hlen
    refine ⟨y, ⟨by rw [hr, k.1, setN_same], by rw [hr, k.1, setN_other _ _ (by omega)]; exact h.ny, by rw [hr]; exact k.2.1, hac, m1.dl _, a1.dl _, i1.dl _⟩, .inl ⟨c1, rfl, c3, c4⟩⟩
  · rw [hidx] at c2
    have k := half_both hn h.nx h.ny h.fl hE (u := ⟨n, x.life, x.ro.ep, false, tolds x.tick.T x.D x.cu⟩) rfl rfl rfl c2
    have hlen : (W.tcd (n : Int)).fl.length ≤ 8 := by
      rw [htc.2, (ticked_is (i := n) hE h.fl c2 (by simp)).2.1]
      simp
    have hr := rnd_half hlen
    refine ⟨y.hrd ⟨n, x.life, x.ro.ep, false, tolds x.tick.T x.D x.cu⟩, ⟨by rw [hr, k.1, setN_other _ _ (by omega), setN_same], by rw [hr, k.1, setN_same], by rw [hr]; exact k.2.1, hac, m1.dl _, a1.dl _, i1.dl _⟩, .inr ⟨c1, rfl, c3, c4⟩⟩
/-- told cells as they are. -/
theorem takeL_keep {T : Tb} : ∀ (l : List Tc) {M : Tb} {j : Nat}, (∀ c ∈ l, c.c = T c.sl.toNat) → M j = T j → takeL M l j = T j
  | [], _, _, _, h => h
  | c :: l, M, j, hl, h => by
    refine takeL_keep l (M := takeT M c) (fun d hd => hl d (by simp [hd])) ?_
    unfold takeT
    split
    · unfold Go.Proofs.YtdboenalgahalaaGreatDoor.upd
      split
      · rename_i e; rw [hl c (by simp), e]
      · exact h
    · exact h
theorem takeL_in {T : Tb} : ∀ (l : List Tc) {M : Tb} {j : Nat}, Sub M T → (∀ c ∈ l, COk T c ∧ c.c = T c.sl.toNat) → (∃ c ∈ l, c.sl.toNat = j) → j < 32 → takeL M l j = T j
  | [], _, _, _, _, ⟨c, hc, _⟩, _ => by simp at hc
  | c :: l, M, j, hs, hl, ⟨d, hd, hj⟩, h32 => by
    have hcc := hl c (by simp)
    by_cases e : c.sl.toNat = j
    · refine takeL_keep l (M := takeT M c) (fun d hd => (hl d (by simp [hd])).2) ?_
      unfold takeT
      split
      · unfold Go.Proofs.YtdboenalgahalaaGreatDoor.upd
        rw [if_pos e.symm, hcc.2, e]
      · rename_i hlt
        rw [e] at hlt
        have hk := hs j h32
        refine hk.2 ?_
        have h1 : c.c.ve = (T j).ve := by rw [hcc.2, e]
        omega
    · refine takeL_in l (hs.take hcc.1) (fun d hd => hl d (by simp [hd])) ?_ h32
      rcases List.mem_cons.1 hd with q | q
      · rw [q] at hj; exact absurd hj e
      · exact ⟨d, q, hj⟩
theorem wk_upto (B : List Nat) (c : Nat) : ∀ j, (wk B c j).length ≤ B.length + j
  | 0 => Nat.le_refl _
  | j + 1 => by have := wk_upto B c j; have := (wk_len B c j).2; omega
/-- how a node settles: so many slots from the first cursor on are told. -/
structure Sv (T : Tb) (c0 N0 b : Nat) (x y : No) (S : Nat) : Prop where
  tt : x.T = T
  nw : (newsL T x.D).length ≤ N0 - 8 * b
  nl : (newsL T x.D).length ≤ N0
  cv : 8 * b ≤ S + (N0 - (newsL T x.D).length)
  cu : x.cu % 32 = (c0 + S) % 32
  in' : ∀ i, i < S → y.mt ((c0 + i) % 32) = T ((c0 + i) % 32)
  ml : 0 < b → y.ml = x.life
  z : b = 0 → S = 0
theorem Sv.batch {q n : Nat} {W : Wo} {x y : No} {T : Tb} {c0 N0 b S : Nat} (h : Sa q n W x y) (hn : n < 2) (hq : q ≤ 800) (v : Sv T c0 N0 b x y S) (hT : x.tick.T = T) (hD : x.tick.D = toldD x.tick.T x.D (nxL x.tick.T x.D x.cu)) (hcu : x.tick.cu = nxC x.tick.T x.D x.cu) :
    ∃ S', Sv T c0 N0 (b + 1) x.tick (y.hrd ⟨n, x.life, x.ro.ep, false, tolds x.tick.T x.D x.cu⟩) S' := by
  rw [hT] at hD hcu ⊢
  have sp := nx_spec T x.D x.cu
  obtain ⟨hE, hro, _, hnow, hli, hid, _⟩ := act_gen h.ac
  obtain ⟨m1, m2, m3, m4, m5⟩ := h.mi.nd n x h.nx
  obtain ⟨k1, k2, k3, k4, k5⟩ := h.mi.nd (1 - n) y h.ny
  rw [show 1 - (1 - n) = n by omega, ← m4] at k5
  have hX := h.iq.up n x h.nx
  have hep := hX.eq
  have hep0 := hX.ep
  have hyid : y.id = ((1 - n : Nat) : Int) := (h.ap.nd _ y h.ny).2.id
  have hcs : ∀ c ∈ tolds T x.D x.cu, COk T c ∧ c.c = T c.sl.toNat := fun c hc => by
    obtain ⟨j, hj, rfl⟩ := List.mem_map.1 hc
    have hj32 := sp.lt j hj
    have e1 : ((j : Nat) : Int).toNat = j := Int.toNat_natCast j
    have e2 : T j = T ((j : Nat) : Int).toNat := by rw [e1]
    exact ⟨⟨okS_iff.2 ⟨by show (0 : Int) ≤ (j : Int); omega, by show (j : Int) < 32; omega⟩, by show (T j).ve ≤ (T ((j : Nat) : Int).toNat).ve; rw [e1]; exact Int.le_refl _, fun _ => e2⟩, e2⟩
  have hlen : (tolds T x.D x.cu).length = 8 := by unfold tolds; rw [List.length_map, sp.len]
  have hte : tellE y.ml x.life (tolds T x.D x.cu) = 0 := by
    unfold tellE
    rw [if_neg, if_neg (by omega)]
    rintro (a | a | a)
    · omega
    · omega
    · obtain ⟨c, hm, hq⟩ := List.any_eq_true.1 a
      rw [(hcs c hm).1.1] at hq
      cases hq
  have he : y.heE ⟨n, x.life, x.ro.ep, false, tolds T x.D x.cu⟩ = 0 := by
    unfold No.heE
    rw [if_pos ⟨by show (n : Int) = 1 - y.id; rw [hyid]; omega, by show (0 : Int) ≤ x.ro.ep; omega, by show x.ro.ep ≤ 1073741824; omega⟩]
    exact hte
  have hx : y.hrd ⟨n, x.life, x.ro.ep, false, tolds T x.D x.cu⟩ = { y with ml := tellLife y.ml x.life (tolds T x.D x.cu), mt := tellT y.ml x.life y.mt (tolds T x.D x.cu), ro := y.ro.hear x.ro.ep } := by
    unfold No.hrd
    rw [if_pos he]
  obtain ⟨J, hJ⟩ : ∃ J, J = nxJ T x.D x.cu := ⟨_, rfl⟩
  have hL : nxL T x.D x.cu = wk ((newsL T x.D).take 8) x.cu J := by rw [hJ]; rfl
  have hC : nxC T x.D x.cu = (x.cu + J) % 32 := by rw [hJ]; rfl
  have h8 : 8 ≤ ((newsL T x.D).take 8).length + J := by
    have := wk_upto ((newsL T x.D).take 8) x.cu J
    rw [← hL, sp.len] at this
    exact this
  have hnews := sp.news
  have hN' : (newsL T (toldD T x.D (nxL T x.D x.cu))).length = (newsL T x.D).length - 8 := by rw [hnews, List.length_drop]
  have htk8 : ((newsL T x.D).take 8).length = min 8 (newsL T x.D).length := List.length_take
  have hV : VZ T := by rw [← v.tt]; exact m2
  -- the mirror ahead of it
  obtain ⟨M0, hM0, hsub, hkeep⟩ : ∃ M0, tellT y.ml x.life y.mt (tolds T x.D x.cu) = takeL M0 (tolds T x.D x.cu) ∧ Sub M0 T ∧ (0 < b → M0 = y.mt) := by
    unfold tellT
    rw [if_pos hte]
    by_cases hlt : y.ml < x.life
    · rw [if_pos hlt]
      exact ⟨newT, rfl, Sub.new hV, fun hb => by have := v.ml hb; omega⟩
    · rw [if_neg hlt]
      have := h.mi.mi n x y h.nx h.ny (by omega)
      rw [v.tt] at this
      exact ⟨y.mt, rfl, this, fun _ => rfl⟩
  have hinL : ∀ j, j ∈ nxL T x.D x.cu → takeL M0 (tolds T x.D x.cu) j = T j := fun j hj =>
    takeL_in _ hsub hcs ⟨⟨(j : Int), T j⟩, List.mem_map.2 ⟨j, hj, rfl⟩, Int.toNat_natCast j⟩ (sp.lt j hj)
  rw [hx]
  refine ⟨S + J, hT, ?_, ?_, ?_, ?_, ?_, fun _ => ?_, fun e => by omega⟩
  · rw [hD, hN']; have := v.nw; omega
  · rw [hD, hN']; have := v.nl; omega
  · rw [hD, hN']; have := v.nl; have := v.cv; omega
  · rw [hcu, hC]
    have := v.cu
    omega
  · intro i hi
    show tellT y.ml x.life y.mt (tolds T x.D x.cu) ((c0 + i) % 32) = _
    rw [hM0]
    by_cases hiS : i < S
    · refine takeL_keep _ (fun c hc => (hcs c hc).2) ?_
      rw [hkeep (by rcases Nat.eq_zero_or_pos b with e | e; (have := v.z e; omega); exact e)]
      exact v.in' i hiS
    · refine hinL _ ?_
      rw [hL, wk_mem]
      refine .inr ⟨i - S, by omega, ?_⟩
      have := v.cu
      omega
  · show tellLife y.ml x.life (tolds T x.D x.cu) = x.tick.life
    unfold tellLife
    rw [if_pos hte, hli]
theorem rnds_add (n : Nat) (W : Wo) (a : Nat) : ∀ b, rnds n (a + b) W = rnds n b (rnds n a W)
  | 0 => rfl
  | b + 1 => by
    show rnd n (rnds n (a + b) W) = rnd n (rnds n b (rnds n a W))
    rw [rnds_add n W a b]
/-- so many rounds. -/
theorem Sa.go {q n : Nat} {W : Wo} {x y : No} (h : Sa q n W x y) (hn : n < 2) : ∀ r, q + r ≤ 800 → (∀ k, k < r → (rnds n k W).tcE (n : Int) = 0) ∧ ∃ x' y', Sa (q + r) n (rnds n r W) x' y' ∧ x'.now = x.now + r ∧ Grw x.T x'.T ∧ ∀ j, 32 ≤ j → x'.T j = x.T j
  | 0, _ => ⟨fun k hk => by omega, x, y, h, by simp, Grw.refl _, fun _ _ => rfl⟩
  | r + 1, hr => by
    obtain ⟨h1, x', y', s, hnow, hg, hT⟩ := Sa.go h hn r (by omega)
    obtain ⟨h2, y2, s2, _⟩ := s.step hn (by omega)
    obtain ⟨_, _, k3, k4, _⟩ := act_gen s.ac
    refine ⟨fun k hk => ?_, x'.tick, y2, s2, by rw [k4, hnow]; omega, hg.trans (by rw [k3]; exact Grw.exp _ _ _), fun j hj => ?_⟩
    · by_cases e : k = r
      · subst e; exact h2
      · exact h1 k (by omega)
    · rw [k3]
      unfold expT
      rw [if_neg (by omega)]
      exact hT j hj
theorem newsL_le (T : Tb) (D : To) : (newsL T D).length ≤ 32 := by
  unfold newsL
  have := List.length_filter_le (fun j => decide ((T j).ve ≠ D j)) (List.range 32)
  simp at this ⊢
  exact this
theorem Sv.run {q n : Nat} {W : Wo} {x y : No} (h : Sa q n W x y) (hn : n < 2) (hq : q + 24 ≤ 800) (h0 : 0 ≤ x.now) (hc : ∀ r, r ≤ 24 → ∀ x', (rnds n r W).nd n = some x' → x'.T = x.T) : ∀ r, r ≤ 24 → ∃ x' y' S, Sa (q + r) n (rnds n r W) x' y' ∧ x'.now = x.now + r ∧ Sv x.T x.cu (newsL x.T x.D).length ((x.now.toNat + r) / 3 - x.now.toNat / 3) x' y' S
  | 0, _ => ⟨x, y, 0, h, by simp, ⟨rfl, by omega, Nat.le_refl _, by omega, rfl, fun i hi => by omega, fun e => by omega, fun _ => rfl⟩⟩
  | r + 1, hr => by
    obtain ⟨x', y', S, s, hnow, v⟩ := Sv.run h hn hq h0 hc r (by omega)
    obtain ⟨_, y2, s2, hcase⟩ := s.step hn (by omega)
    obtain ⟨_, _, _, k4, k5, _⟩ := act_gen s.ac
    have hT : x'.tick.T = x.T := hc (r + 1) hr x'.tick s2.nx
    have hnow2 : x'.tick.now = x.now + ((r + 1 : Nat) : Int) := by rw [k4, hnow]; omega
    rcases hcase with ⟨c1, rfl, c3, c4⟩ | ⟨c1, rfl, c3, c4⟩
    · have e1 : (x.now.toNat + (r + 1)) / 3 - x.now.toNat / 3 = (x.now.toNat + r) / 3 - x.now.toNat / 3 := by omega
      refine ⟨x'.tick, y2, S, s2, hnow2, ?_⟩
      rw [e1]
      exact ⟨hT, by rw [c3]; exact v.nw, by rw [c3]; exact v.nl, by rw [c3]; exact v.cv, by rw [c4]; exact v.cu, v.in', fun e => by rw [k5]; exact v.ml e, v.z⟩
    · have e1 : (x.now.toNat + (r + 1)) / 3 - x.now.toNat / 3 = (x.now.toNat + r) / 3 - x.now.toNat / 3 + 1 := by omega
      obtain ⟨S', v'⟩ := v.batch s hn (by omega) hT c3 c4
      refine ⟨x'.tick, _, S', s2, hnow2, ?_⟩
      rw [e1]
      exact v'
/-- a node settles: where its table has not changed, the other one's mirror is its table. -/
theorem settled {q n : Nat} {W : Wo} {x y : No} (h : Sa q n W x y) (hn : n < 2) (hq : q + 24 ≤ 800) (h0 : 0 ≤ x.now) : (∀ k, k < 24 → (rnds n k W).tcE (n : Int) = 0) ∧ ∃ x' y', Sa (q + 24) n (rnds n 24 W) x' y' ∧ Grw x.T x'.T ∧ ((∀ j, j < 32 → x'.T j = x.T j) → ∀ j, j < 32 → y'.mt j = x'.T j) := by
  obtain ⟨h1, x', y', s, _, hg, _⟩ := h.go hn 24 hq
  refine ⟨h1, x', y', s, hg, fun heq => ?_⟩
  have hc : ∀ r, r ≤ 24 → ∀ x2, (rnds n r W).nd n = some x2 → x2.T = x.T := fun r hr x2 hx2 => by
    obtain ⟨_, x3, y3, s3, _, hg3, hT3⟩ := h.go hn r (by omega)
    have e : x2 = x3 := by have := s3.nx; rw [hx2] at this; exact Option.some.inj this
    subst e
    obtain ⟨_, x4, y4, s4, _, hg4, _⟩ := s3.go hn (24 - r) (by omega)
    have e2 : x4 = x' := by
      have e5 := s4.nx
      rw [← rnds_add, show r + (24 - r) = 24 by omega, s.nx] at e5
      exact (Option.some.inj e5).symm
    subst e2
    funext j
    by_cases hj : j < 32
    · rcases hg3 j hj with e3 | e3
      · exact e3
      · have e6 := heq j hj
        rcases hg4 j hj with e4 | e4
        · rw [e4] at e6
          rw [e6] at e3
          omega
        · rw [e6] at e4
          omega
    · exact hT3 j (by omega)
  obtain ⟨x2, y2, S, s2, _, v⟩ := Sv.run h hn hq h0 hc 24 (by omega)
  have ex : x2 = x' := by have := s2.nx; rw [s.nx] at this; exact (Option.some.inj this).symm
  have ey : y2 = y' := by have := s2.ny; rw [s.ny] at this; exact (Option.some.inj this).symm
  subst ex
  subst ey
  intro j hj
  have hb : (x.now.toNat + 24) / 3 - x.now.toNat / 3 = 8 := by omega
  have hN := newsL_le x.T x.D
  have v1 := v.nw
  have v2 := v.cv
  rw [hb] at v1 v2
  have hS : 32 ≤ S := by omega
  have hi := v.in' ((j + 32 - x.cu % 32) % 32) (by omega)
  have e : (x.cu + (j + 32 - x.cu % 32) % 32) % 32 = j := by omega
  rw [e] at hi
  rw [hi, v.tt]
end Go.Proofs.YtdboenalgahalaaGreatDoor
