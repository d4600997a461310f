/-
  What holds of a world whatever happens: what a mirror has of the other one's life is of that one's table, or older.
-/
import Derived.Test.YtenonidmgpmohaaGreatDoorWiA
namespace Go.Proofs.YtenonidmgpmohaaGreatDoor
open Go.RowKit

/-- versions grow where cells change. -/
def Grw (T T' : Tb) : Prop := ∀ j, j < 32 → T' j = T j ∨ (T j).ve < (T' j).ve
theorem Grw.refl (T : Tb) : Grw T T := fun _ _ => .inl rfl
theorem Grw.trans {T U V : Tb} (h : Grw T U) (k : Grw U V) : Grw T V := fun j hj => by
  rcases h j hj with a | a
  · rcases k j hj with b | b
    · exact .inl (b.trans a)
    · rw [a] at b; exact .inr b
  · rcases k j hj with b | b
    · rw [b]; exact .inr a
    · exact .inr (by omega)
theorem Grw.upd {T : Tb} (k : Nat) {c : Ce} (h : (T k).ve < c.ve) : Grw T (upd T k c) := fun j _ => by
  unfold Go.Proofs.YtenonidmgpmohaaGreatDoor.upd
  split
  · rename_i e; subst e; exact .inr h
  · exact .inl rfl
theorem Grw.lay (T : Tb) (k : Nat) (pr ia ip fa fp po st un : Int) : Grw T (layT T k pr ia ip fa fp po st un) := Grw.upd k (by show (T k).ve < (T k).ve + 1; omega)
theorem Grw.exp (T : Tb) (now : Int) (n : Nat) : Grw T (expT T now n) := fun j _ => by
  unfold expT
  split
  · exact .inr (by show (T j).ve < (T j).ve + 1; omega)
  · exact .inl rfl
theorem Grw.put (T : Tb) (pr ia ip fa fp po st un : Int) : Grw T (putT T pr ia ip fa fp po st un).2.2 := by
  unfold putT
  repeat' split
  all_goals first | exact Grw.refl _ | exact Grw.lay _ _ _ _ _ _ _ _ _ _
theorem Grw.add (T : Tb) (low pr ia ip fa fp st un : Int) : Grw T (addT T low pr ia ip fa fp st un).2.2 := by
  unfold addT
  repeat' split
  all_goals first | exact Grw.refl _ | exact Grw.lay _ _ _ _ _ _ _ _ _ _
theorem Grw.set (T : Tb) (k st un : Int) : Grw T (setT T k st un) := by
  unfold setT
  split
  · exact Grw.upd _ (by show (T k.toNat).ve < (T k.toNat).ve + 1; omega)
  · exact Grw.refl _
theorem Grw.drop (T : Tb) (k : Int) : Grw T (dropT T k) := by
  unfold dropT
  split
  · exact Grw.lay _ _ _ _ _ _ _ _ _ _
  · exact Grw.refl _
theorem Grw.ad (now : Int) : ∀ (l : List Ce) (T : Tb), Grw T (adT now T l)
  | [], _ => Grw.refl _
  | _ :: l, _ => (Grw.put _ _ _ _ _ _ _ _ _).trans (Grw.ad now l _)
/-- versions from 0 on; a slot of version 0 never had a flow. -/
def VZ (T : Tb) : Prop := ∀ j, j < 32 → 0 ≤ (T j).ve ∧ ((T j).ve = 0 → T j = noC)
theorem VZ.new : VZ newT := fun _ _ => ⟨Int.le_refl _, fun _ => rfl⟩
theorem VZ.grw {T T' : Tb} (h : VZ T) (g : Grw T T') : VZ T' := fun j hj => by
  obtain ⟨a, b⟩ := h j hj
  rcases g j hj with e | e
  · rw [e]; exact ⟨a, b⟩
  · exact ⟨by omega, fun z => by omega⟩
/-- a mirror that has of each slot what it has, or older. -/
def Sub (M T : Tb) : Prop := ∀ j, j < 32 → (M j).ve ≤ (T j).ve ∧ ((M j).ve = (T j).ve → M j = T j)
theorem Sub.grw {M T T' : Tb} (h : Sub M T) (g : Grw T T') : Sub M T' := fun j hj => by
  obtain ⟨a, b⟩ := h j hj
  rcases g j hj with e | e
  · rw [e]; exact ⟨a, b⟩
  · exact ⟨by omega, fun z => by omega⟩
theorem Sub.new {T : Tb} (h : VZ T) : Sub newT T := fun j hj => ⟨(h j hj).1, fun e => ((h j hj).2 e.symm).symm⟩
/-- a cell that is told of a table as it is, or was. -/
def COk (T : Tb) (c : Tc) : Prop := okS c = true ∧ c.c.ve ≤ (T c.sl.toNat).ve ∧ (c.c.ve = (T c.sl.toNat).ve → c.c = T c.sl.toNat)
theorem COk.grw {T T' : Tb} {c : Tc} (h : COk T c) (g : Grw T T') : COk T' c := by
  obtain ⟨o, a, b⟩ := h
  have hj : c.sl.toNat < 32 := by have := okS_iff.1 o; omega
  rcases g _ hj with e | e
  · exact ⟨o, by rw [e]; exact a, by rw [e]; exact b⟩
  · exact ⟨o, by omega, fun z => by omega⟩
theorem Sub.take {M T : Tb} (h : Sub M T) {c : Tc} (hc : COk T c) : Sub (takeT M c) T := by
  obtain ⟨o, a, b⟩ := hc
  unfold takeT
  split
  · intro j hj
    unfold Go.Proofs.YtenonidmgpmohaaGreatDoor.upd
    split
    · rename_i e; subst e; exact ⟨a, b⟩
    · exact h j hj
  · exact h
theorem Sub.takeL : ∀ (l : List Tc) {M T : Tb}, Sub M T → (∀ c ∈ l, COk T c) → Sub (takeL M l) T
  | [], _, _, h, _ => h
  | c :: l, _, _, h, hl => Sub.takeL l (h.take (hl c (by simp))) (fun d hd => hl d (by simp [hd]))
theorem ins_grw (x : No) (p : Pk) : Grw x.T (x.ins p).T ∧ (x.ins p).ml = x.ml ∧ (x.ins p).mt = x.mt := by
  unfold No.ins No.ou No.stp No.bg
  repeat' split
  all_goals first | exact ⟨Grw.refl _, rfl, rfl⟩ | exact ⟨Grw.drop _ _, rfl, rfl⟩ | exact ⟨Grw.set _ _ _ _, rfl, rfl⟩ | exact ⟨Grw.add _ _ _ _ _ _ _ _ _, rfl, rfl⟩
theorem ots_grw (x : No) (p : Pk) : Grw x.T (x.ots p).T ∧ (x.ots p).ml = x.ml ∧ (x.ots p).mt = x.mt := by
  unfold No.ots No.stp
  repeat' split
  all_goals first | exact ⟨Grw.refl _, rfl, rfl⟩ | exact ⟨Grw.drop _ _, rfl, rfl⟩ | exact ⟨Grw.set _ _ _ _, rfl, rfl⟩
theorem tk1_grw (x : No) : Grw x.T x.tk1.T := by
  have h1 : Grw x.T x.ticked.T := Grw.exp _ _ _
  unfold No.tk1
  split
  · unfold No.clm
    split
    · split
      · exact h1.trans (Grw.ad _ _ _)
      · exact h1
    · exact h1
  · exact h1
theorem tick_grw (x : No) : Grw x.T x.tick.T ∧ x.tick.ml = x.ml ∧ x.tick.mt = x.mt ∧ x.tick.life = x.life := by
  obtain ⟨_, _, t3, t4, _, t6, t7, _⟩ := tick_tk1 x
  have h : x.tk1.ml = x.ml ∧ x.tk1.mt = x.mt ∧ x.tk1.life = x.life := by
    unfold No.tk1 No.clm
    repeat' split
    all_goals exact ⟨rfl, rfl, rfl⟩
  exact ⟨by rw [t3]; exact tk1_grw x, t7.trans h.1, t4.trans h.2.1, t6.trans h.2.2⟩
/-- the last life of a node that was written. -/
def Wo.lif (W : Wo) (i : Nat) : Int := (newest (W.byt i).B).l
structure Mi (W : Wo) : Prop where
  nd : ∀ i x, W.nd i = some x → i < 2 ∧ VZ x.T ∧ 1 ≤ x.life ∧ x.life = W.lif i ∧ x.ml ≤ W.lif (1 - i)
  fl : ∀ t ∈ W.fl, (t.fr = 0 ∨ t.fr = 1) ∧ t.li ≤ W.lif t.fr.toNat
  nt : ∀ i x, W.nd i = some x → ∀ t ∈ W.fl, t.fr = i → t.li = x.life → ∀ c ∈ t.cs, COk x.T c
  mi : ∀ i x y, W.nd i = some x → W.nd (1 - i) = some y → y.ml = x.life → Sub y.mt x.T
theorem lif_up {W : Wo} {i : Nat} {x : No} (h : W.nd i = some x) : W.lif i = ((newest x.y.B).l : Int) := by unfold Wo.lif; rw [byt_up h]
theorem lif_set {W : Wo} {i j : Nat} {x : No} : ({ W with nd := setN W.nd i (some x) } : Wo).lif j = if j = i then ((newest x.y.B).l : Int) else W.lif j := by
  unfold Wo.lif
  rw [byt_set]
  split <;> rfl
/-- a node whose table grows. -/
theorem Mi.grow {W : Wo} (h : Mi W) {i : Nat} {x x' : No} (hx : W.nd i = some x) (g : Grw x.T x'.T) (hl : x'.life = x.life) (hm : x'.ml = x.ml) (ht : x'.mt = x.mt) (hy : (newest x'.y.B).l = (newest x.y.B).l) : Mi { W with nd := setN W.nd i (some x') } := by
  have hlif : ∀ j, ({ W with nd := setN W.nd i (some x') } : Wo).lif j = W.lif j := fun j => by
    rw [lif_set]
    split
    · rename_i e; subst e; rw [hy, lif_up hx]
    · rfl
  have hnd : ∀ j y, ({ W with nd := setN W.nd i (some x') } : Wo).nd j = some y → ∃ z, W.nd j = some z ∧ Grw z.T y.T ∧ y.life = z.life ∧ y.ml = z.ml ∧ y.mt = z.mt := fun j y hj => by
    have hj' : setN W.nd i (some x') j = some y := hj
    by_cases e : j = i
    · subst e; rw [setN_same] at hj'; cases hj'; exact ⟨x, hx, g, hl, hm, ht⟩
    · rw [setN_other _ _ e] at hj'; exact ⟨y, hj', Grw.refl _, rfl, rfl, rfl⟩
  refine ⟨fun j y hj => ?_, fun t ht' => ?_, fun j y hj t ht' hfr hli c hc => ?_, fun j y z hj hk hml => ?_⟩
  · obtain ⟨z, hz, g', e1, e2, _⟩ := hnd j y hj
    obtain ⟨a1, a2, a3, a4, a5⟩ := h.nd j z hz
    rw [hlif, hlif, e1, e2]
    exact ⟨a1, a2.grw g', a3, a4, a5⟩
  · rw [hlif]
    exact h.fl t ht'
  · obtain ⟨z, hz, g', e1, _⟩ := hnd j y hj
    exact (h.nt j z hz t ht' hfr (hli.trans e1) c hc).grw g'
  · obtain ⟨y0, hy0, g1, e1, _⟩ := hnd j y hj
    obtain ⟨z0, hz0, _, _, e3, e4⟩ := hnd (1 - j) z hk
    rw [e4]
    exact (h.mi j y0 z0 hy0 hz0 (by rw [← e3, hml, e1])).grw g1
theorem Mi.sent {W : Wo} (h : Mi W) {i : Nat} {x : No} (hx : W.nd i = some x) {l : List Nf} (hl : ∀ t ∈ l, t.fr = i ∧ t.li = x.life ∧ ∀ c ∈ t.cs, COk x.T c) : Mi (W.sent l) := by
  have hm : ∀ t, t ∈ (W.sent l).fl → t ∈ W.fl ∨ t ∈ l := fun t ht => by
    have ht' : t ∈ W.fl ++ l.take (200 - W.fl.length) := ht
    rcases List.mem_append.1 ht' with a | a
    · exact .inl a
    · exact .inr (List.mem_of_mem_take a)
  refine ⟨h.nd, fun t ht => ?_, fun j y hj t ht hfr hli c hc => ?_, h.mi⟩
  · rcases hm t ht with a | a
    · exact h.fl t a
    · obtain ⟨e1, e2, _⟩ := hl t a
      have hi := (h.nd i x hx).1
      refine ⟨by rw [e1]; omega, ?_⟩
      show t.li ≤ W.lif t.fr.toNat
      rw [e1, e2, Int.toNat_natCast, (h.nd i x hx).2.2.2.1]
      exact Int.le_refl _
  · rcases hm t ht with a | a
    · exact h.nt j y hj t a hfr hli c hc
    · obtain ⟨e1, e2, e3⟩ := hl t a
      have e4 : j = i := by rw [hfr] at e1; omega
      subst e4
      have hj' : W.nd j = some y := hj
      rw [hx] at hj'
      cases hj'
      exact e3 c hc
theorem lif_fallen {W : Wo} {i j : Nat} {y : By} : (W.fallen i y).lif j = if j = i then ((newest y.B).l : Int) else W.lif j := by
  unfold Wo.lif
  rw [byt_fallen]
  split <;> rfl
theorem Mi.fallen {W : Wo} (h : Mi W) {i : Nat} {y : By} (hl : ((newest y.B).l : Int) = W.lif i) : Mi (W.fallen i y) := by
  have hlif : ∀ j, (W.fallen i y).lif j = W.lif j := fun j => by
    rw [lif_fallen]
    split
    · rename_i e; subst e; exact hl
    · rfl
  have hnd : ∀ j z, (W.fallen i y).nd j = some z → W.nd j = some z := fun j z hz => by
    have hz' : setN W.nd i none j = some z := hz
    by_cases e : j = i
    · subst e; rw [setN_same] at hz'; cases hz'
    · rw [setN_other _ _ e] at hz'; exact hz'
  refine ⟨fun j z hz => ?_, fun t ht => ?_, fun j z hz t ht => ?_, fun j z u hz hu => ?_⟩
  · rw [hlif, hlif]; exact h.nd j z (hnd j z hz)
  · rw [hlif]; exact h.fl t ht
  · exact h.nt j z (hnd j z hz) t ht
  · exact h.mi j z u (hnd j z hz) (hnd _ u hu)
theorem Mi.flat {W : Wo} (h : Mi W) (l : List Nf) (hl : ∀ t ∈ l, t ∈ W.fl) : Mi { W with fl := l } := ⟨h.nd, fun t ht => h.fl t (hl t ht), fun i x hx t ht => h.nt i x hx t (hl t ht), h.mi⟩
theorem Mi.born {l : List Rl} (hr : RulesOk l) : Mi (Wo.born l) := by
  have hnd : ∀ i x, (Wo.born l).nd i = some x → i < 2 ∧ x = No.new i new0.oned l := fun i x hx => by
    have hx' : (if i < 2 then some (No.new i new0.oned l) else none) = some x := hx
    split at hx'
    · rename_i hi
      cases hx'
      exact ⟨hi, rfl⟩
    · cases hx'
  have e0 : newest new0.B = ⟨0, 0, 0⟩ := Beg.zero.nw
  have hlf : ∀ i, i < 2 → (Wo.born l).lif i = 1 := fun i hi => by
    have hx : (Wo.born l).nd i = some (No.new i new0.oned l) := by show (if i < 2 then some (No.new i new0.oned l) else none) = _; rw [if_pos hi]
    rw [lif_up hx, new_newest YI.zero (by omega) hi hr, e0]
    rfl
  have hlife : ∀ i, (No.new i new0.oned l).life = 1 := fun i => by
    show ((newest new0.oned.B).l : Int) + 1 = 1
    have : newest new0.oned.B = newest new0.B := rfl
    rw [this, e0]
    rfl
  refine ⟨fun i x hx => ?_, fun t ht => ?_, fun i x hx t ht => ?_, fun i x y hx hy hm => ?_⟩
  · obtain ⟨hi, rfl⟩ := hnd i x hx
    refine ⟨hi, VZ.new, by rw [hlife]; omega, by rw [hlife, hlf i hi], ?_⟩
    rw [hlf _ (by omega)]
    show (0 : Int) ≤ 1
    omega
  · have h' : t ∈ ([] : List Nf) := ht
    simp at h'
  · have h' : t ∈ ([] : List Nf) := ht
    simp at h'
  · obtain ⟨hi, rfl⟩ := hnd i x hx
    obtain ⟨hj, rfl⟩ := hnd _ y hy
    rw [hlife] at hm
    have hm' : (0 : Int) = 1 := hm
    omega
theorem Mi.tick {q : Nat} {W : Wo} (h : Mi W) (hI : In q W) (hA : Ap q W) (hq : q ≤ 900) (n : Int) : Mi (W.tcd n) := by
  unfold Wo.tcd
  split
  · cases hx : W.nd n.toNat with
    | none => exact h
    | some x =>
      have hX := hI.up _ x hx
      obtain ⟨hi, hp⟩ := hA.nd _ x hx
      obtain ⟨t1, t2', t3, t4, t5, t6, _⟩ := tick_tk1 x
      obtain ⟨g, gm, gt, gl⟩ := tick_grw x
      have hyl : (newest x.tick.y.B).l = (newest x.y.B).l := by
        rw [t5]
        rcases tk1_ways hX (by omega) with ⟨_, _, a3⟩ | ⟨_, _, _, _, a4⟩
        · rw [a3]
        · rw [a4]
          have := hX.li
          show x.life.toNat = _
          omega
      have h2 := h.grow hx g gl gm gt hyl
      have hfl : x.tkE = 0 → ∀ t ∈ x.tickL.map x.tk1.fly, t.fr = ((n.toNat : Nat) : Int) ∧ t.li = x.tick.life ∧ ∀ c ∈ t.cs, COk x.tick.T c := fun hE t ht => by
        obtain ⟨u, hu, rfl⟩ := List.mem_map.1 ht
        refine ⟨by show x.tk1.id = _; exact hp.tk1.id, t6.symm, fun c hc => ?_⟩
        obtain ⟨j, hj, rfl⟩ := List.mem_map.1 hc
        have hj32 : j < 32 := (tickL_fits x).2 u hu j hj
        have e1 : ((j : Nat) : Int).toNat = j := Int.toNat_natCast j
        refine ⟨okS_iff.2 ⟨by show (0 : Int) ≤ (j : Int); omega, by show (j : Int) < 32; omega⟩, ?_, ?_⟩
        · show (x.tk1.T j).ve ≤ (x.tick.T ((j : Nat) : Int).toNat).ve
          rw [e1, t3]; exact Int.le_refl _
        · intro _
          show x.tk1.T j = x.tick.T ((j : Nat) : Int).toNat
          rw [e1, t3]
      show Mi (W.ticked n.toNat x)
      unfold Wo.ticked
      split
      · rename_i hE
        split
        · have h3 : Mi (({ W with nd := setN W.nd n.toNat (some x.tick) } : Wo).noted (((n.toNat : Nat) : Int), x.tick.ro.ep)) := ⟨h2.nd, h2.fl, h2.nt, h2.mi⟩
          exact h3.sent (setN_same _ _ _) (hfl hE)
        · exact h2.sent (setN_same _ _ _) (hfl hE)
      · split
        · refine h.fallen ?_
          rw [hyl, lif_up hx]
        · exact h2
  · exact h
theorem Mi.down {W : Wo} (h : Mi W) (n : Int) : Mi (W.downed n) := by
  unfold Wo.downed
  split
  · cases hx : W.nd n.toNat with
    | none => exact h
    | some x => exact h.fallen (lif_up hx).symm
  · exact h
theorem Mi.upN {q : Nat} {W : Wo} (h : Mi W) (hI : In q W) (hq : q ≤ 900) (hr : RulesOk W.ru) (n : Int) : Mi (W.upped n) := by
  unfold Wo.upped
  split
  · rename_i e
    unfold Wo.roE at e
    split at e
    · rename_i h2
      split at e
      · omega
      · rename_i hs
        have hn : W.nd n.toNat = none := by cases hq2 : W.nd n.toNat with | none => rfl | some y => rw [hq2] at hs; simp at hs
        obtain ⟨i, hi⟩ : ∃ i, i = n.toNat := ⟨_, rfl⟩
        have hi2 : i < 2 := by omega
        rw [← hi] at hn
        show Mi (W.risen n.toNat)
        rw [← hi]
        have hnw := new_newest (i := i) (l := W.ru) (hI.dn i hi2 hn) (by omega) hi2 hr
        have hold : W.lif i = ((newest (W.yb i).B).l : Int) := by unfold Wo.lif; rw [byt_dn hn]
        have hlif : ∀ j, (W.risen i).lif j = if j = i then W.lif i + 1 else W.lif j := fun j => by
          show ({ W with nd := setN W.nd i (some (No.new i (W.yb i).oned W.ru)) } : Wo).lif j = _
          rw [lif_set, hnw, hold]
          split
          · show (((newest (W.yb i).B).l + 1 : Nat) : Int) = _
            omega
          · rfl
        have hlife : (No.new i (W.yb i).oned W.ru).life = W.lif i + 1 := by
          show ((newest (W.yb i).oned.B).l : Int) + 1 = _
          rw [hold]
          rfl
        have h0 : ∀ j, 0 ≤ W.lif j := fun j => by unfold Wo.lif; omega
        have hge : ∀ j, W.lif j ≤ (W.risen i).lif j := fun j => by
          rw [hlif]
          split
          · rename_i e; subst e; omega
          · exact Int.le_refl _
        have hnd : ∀ j z, (W.risen i).nd j = some z → (j = i ∧ z = No.new i (W.yb i).oned W.ru) ∨ (j ≠ i ∧ W.nd j = some z) := fun j z hz => by
          have hz' : setN W.nd i (some (No.new i (W.yb i).oned W.ru)) j = some z := hz
          by_cases e : j = i
          · subst e; rw [setN_same] at hz'; cases hz'; exact .inl ⟨rfl, rfl⟩
          · rw [setN_other _ _ e] at hz'; exact .inr ⟨e, hz'⟩
        refine ⟨fun j z hz => ?_, fun t ht => ?_, fun j z hz t ht hfr hli c hc => ?_, fun j z u hz hu hml => ?_⟩
        · rcases hnd j z hz with ⟨rfl, rfl⟩ | ⟨hne, hz'⟩
          · refine ⟨hi2, VZ.new, ?_, ?_, ?_⟩
            · rw [hlife]; have := h0 j; omega
            · rw [hlife, hlif, if_pos rfl]
            · show (0 : Int) ≤ _
              exact Int.le_trans (h0 (1 - j)) (hge (1 - j))
          · obtain ⟨a1, a2, a3, a4, a5⟩ := h.nd j z hz'
            exact ⟨a1, a2, a3, by rw [hlif, if_neg hne]; exact a4, Int.le_trans a5 (hge _)⟩
        · have := h.fl t ht
          exact ⟨this.1, Int.le_trans this.2 (hge _)⟩
        · rcases hnd j z hz with ⟨rfl, rfl⟩ | ⟨_, hz'⟩
          · have hf := (h.fl t ht).2
            rw [hfr, Int.toNat_natCast] at hf
            rw [hlife] at hli
            omega
          · exact h.nt j z hz' t ht hfr hli c hc
        · rcases hnd j z hz with ⟨rfl, rfl⟩ | ⟨hne, hz'⟩
          · rcases hnd _ u hu with ⟨e, _⟩ | ⟨_, hu'⟩
            · omega
            · have := (h.nd _ u hu').2.2.2.2
              rw [show 1 - (1 - j) = j by omega] at this
              rw [hlife] at hml
              omega
          · rcases hnd _ u hu with ⟨_, rfl⟩ | ⟨_, hu'⟩
            · have := (h.nd j z hz').2.2.1
              have hml' : (0 : Int) = z.life := hml
              omega
            · exact h.mi j z u hz' hu' hml
    · omega
  · exact h
theorem Mi.cut {W : Wo} (h : Mi W) (n m : Int) : Mi (W.cutted n m) := by
  unfold Wo.cutted
  split
  · cases hx : W.nd n.toNat with
    | none => exact h
    | some x =>
      have hB : (x.y.setCut m).B = x.y.B := by unfold By.setCut; split <;> rfl
      exact h.grow hx (Grw.refl _) rfl rfl rfl (by show (newest (x.y.setCut m).B).l = _; rw [hB])
  · exact h
theorem Mi.inside {W : Wo} (h : Mi W) (p : Pk) : Mi (W.ins p) := by
  unfold Wo.ins
  split
  · rename_i i x hc
    have s := ins_same2 x p
    have g := ins_grw x p
    exact h.grow (cho_some hc).2.1 g.1 s.2.1 g.2.1 g.2.2 (by rw [s.1])
  · exact h
theorem Mi.outside {W : Wo} (h : Mi W) (p : Pk) : Mi (W.ots p) := by
  unfold Wo.ots
  split
  · rename_i i x hc
    have s := ots_same2 x p
    have g := ots_grw x p
    exact h.grow (cho_some hc).2.1 g.1 s.2.1 g.2.1 g.2.2 (by rw [s.1])
  · exact h
theorem Mi.landed {W : Wo} (h : Mi W) (k : Nat) : Mi (W.landed k) := h.flat _ (fun _ ht => List.mem_of_mem_eraseIdx ht)
theorem Mi.drop {W : Wo} (h : Mi W) (n : Int) : Mi (W.dropped n) := by
  unfold Wo.dropped
  split
  · exact h.landed _
  · exact h
theorem Mi.twice {W : Wo} (h : Mi W) (n : Int) : Mi (W.twiced n) := by
  have h1 := h.flat (W.twiced n).fl Wo.twiced_mem
  have s := W.twiced_same n
  have e : W.twiced n = { W with fl := (W.twiced n).fl } := by
    obtain ⟨s1, s2, s3, s4, s5, s6⟩ := s
    generalize W.twiced n = V at *
    cases V
    cases W
    simp only at s1 s2 s3 s4 s5 s6
    subst s1 s2 s3 s4 s5 s6
    rfl
  rw [e]
  exact h1
theorem Mi.rules {W : Wo} (h : Mi W) (l : List Rl) (j : Nat) : Mi (W.ruledTo l j) := by
  have hnd : ∀ i x, (W.ruledTo l j).nd i = some x → ∃ y, W.nd i = some y ∧ x.life = y.life ∧ x.T = y.T ∧ x.mt = y.mt ∧ x.ml = y.ml := fun i x hx => by
    have hx' : (if i < j then (W.nd i).map (fun y => ({ y with ru := l } : No)) else W.nd i) = some x := hx
    split at hx'
    · obtain ⟨y, hy, rfl⟩ := Option.map_eq_some_iff.1 hx'
      exact ⟨y, hy, rfl, rfl, rfl, rfl⟩
    · exact ⟨x, hx', rfl, rfl, rfl, rfl⟩
  have hlif : ∀ i, (W.ruledTo l j).lif i = W.lif i := fun i => by unfold Wo.lif; rw [byt_ruled]
  refine ⟨fun i x hx => ?_, fun t ht => ?_, fun i x hx t ht hfr hli c hc => ?_, fun i x y hx hy hm => ?_⟩
  · obtain ⟨y, hy, e1, e2, e3, e4⟩ := hnd i x hx
    rw [hlif, hlif, e1, e2, e4]
    exact h.nd i y hy
  · rw [hlif]; exact h.fl t ht
  · obtain ⟨y, hy, e1, e2, _⟩ := hnd i x hx
    rw [e2]
    exact h.nt i y hy t ht hfr (by rw [← e1]; exact hli) c hc
  · obtain ⟨x0, hx0, e1, e2, _⟩ := hnd i x hx
    obtain ⟨y0, hy0, _, _, e3, e4⟩ := hnd _ y hy
    rw [e2, e3]
    exact h.mi i x0 y0 hx0 hy0 (by rw [← e4, hm, e1])
/-- a note is handed over: what becomes of the mirror. -/
theorem Mi.handed {W : Wo} (h : Mi W) {t : Nf} {i : Nat} (hi : i < 2) (hfr : t.fr = ((1 - i : Nat) : Int)) {y : No} (hy : W.nd i = some y) (hli : t.li ≤ W.lif (1 - i)) (hnt : ∀ x, W.nd (1 - i) = some x → t.li = x.life → ∀ c ∈ t.cs, COk x.T c) : Mi { W with nd := setN W.nd i (some (y.hrd t)) } := by
  have hsame : (y.hrd t).T = y.T ∧ (y.hrd t).life = y.life ∧ (y.hrd t).y = y.y := by unfold No.hrd; split <;> exact ⟨rfl, rfl, rfl⟩
  have hlif : ∀ j, ({ W with nd := setN W.nd i (some (y.hrd t)) } : Wo).lif j = W.lif j := fun j => by
    rw [lif_set]
    split
    · rename_i e; subst e; rw [hsame.2.2, lif_up hy]
    · rfl
  obtain ⟨b1, b2, b3, b4, b5⟩ := h.nd i y hy
  have hnd : ∀ j z, ({ W with nd := setN W.nd i (some (y.hrd t)) } : Wo).nd j = some z → (j = i ∧ z = y.hrd t) ∨ (j ≠ i ∧ W.nd j = some z) := fun j z hz => by
    have hz' : setN W.nd i (some (y.hrd t)) j = some z := hz
    by_cases e : j = i
    · subst e; rw [setN_same] at hz'; cases hz'; exact .inl ⟨rfl, rfl⟩
    · rw [setN_other _ _ e] at hz'; exact .inr ⟨e, hz'⟩
  have hml : (y.hrd t).ml ≤ W.lif (1 - i) := by
    unfold No.hrd
    split
    · show tellLife y.ml t.li t.cs ≤ _
      unfold tellLife
      split
      · exact hli
      · exact b5
    · exact b5
  refine ⟨fun j z hz => ?_, fun u hu => ?_, fun j z hz u hu hf hl c hc => ?_, fun j z u hz hu hm => ?_⟩
  · rw [hlif, hlif]
    rcases hnd j z hz with ⟨rfl, rfl⟩ | ⟨_, hz'⟩
    · rw [hsame.1, hsame.2.1]
      exact ⟨b1, b2, b3, b4, hml⟩
    · exact h.nd j z hz'
  · rw [hlif]; exact h.fl u hu
  · rcases hnd j z hz with ⟨rfl, rfl⟩ | ⟨_, hz'⟩
    · rw [hsame.1]
      rw [hsame.2.1] at hl
      exact h.nt j y hy u hu hf hl c hc
    · exact h.nt j z hz' u hu hf hl c hc
  · rcases hnd j z hz with ⟨rfl, rfl⟩ | ⟨hne, hz'⟩
    · rcases hnd _ u hu with ⟨e, _⟩ | ⟨_, hu'⟩
      · omega
      · rw [hsame.1]
        rw [hsame.2.1] at hm
        exact h.mi j y u hy hu' hm
    · rcases hnd _ u hu with ⟨e, rfl⟩ | ⟨_, hu'⟩
      · have hj : j = 1 - i := by have := (h.nd j z hz').1; omega
        subst hj
        have hold : y.ml = z.life → Sub y.mt z.T := fun e2 => h.mi (1 - i) z y hz' (by rw [show 1 - (1 - i) = i by omega]; exact hy) e2
        unfold No.hrd at hm ⊢
        split at hm
        · rename_i he
          rw [if_pos he]
          have hte : tellE y.ml t.li t.cs = 0 := by
            unfold No.heE at he
            split at he
            · split at he
              · cases he
              · exact he
            · cases he
          have hm' : tellLife y.ml t.li t.cs = z.life := hm
          unfold tellLife at hm'
          rw [if_pos hte] at hm'
          show Sub (tellT y.ml t.li y.mt t.cs) z.T
          unfold tellT
          rw [if_pos hte]
          refine Sub.takeL _ ?_ (hnt z hz' hm')
          split
          · exact Sub.new (h.nd _ z hz').2.1
          · rename_i hlt
            refine hold ?_
            have : ¬ t.li < y.ml := by
              unfold tellE at hte
              split at hte
              · cases hte
              · split at hte
                · cases hte
                · assumption
            omega
        · rename_i he
          rw [if_neg he]
          exact hold hm
      · exact h.mi j z u hz' hu' hm
theorem Mi.dlv {W : Wo} (h : Mi W) (n : Int) : Mi (W.dlv n) := by
  unfold Wo.dlv
  split
  · cases ht : W.fl[n.toNat]? with
    | none => exact h
    | some t =>
      have hm := List.mem_of_getElem? ht
      have h1 := h.landed n.toNat
      show Mi (W.delivered n.toNat t)
      unfold Wo.delivered
      split
      · unfold Wo.heard
        split
        · exact ⟨h1.nd, h1.fl, h1.nt, h1.mi⟩
        · exact h1
      · unfold Wo.handed
        obtain ⟨f1, f2⟩ := h.fl t hm
        obtain ⟨i, hi, hfr, hto⟩ : ∃ i : Nat, i < 2 ∧ t.fr = ((1 - i : Nat) : Int) ∧ (1 - t.fr).toNat = i := by
          rcases f1 with e | e
          · exact ⟨1, by omega, by rw [e]; rfl, by rw [e]; rfl⟩
          · exact ⟨0, by omega, by rw [e]; rfl, by rw [e]; rfl⟩
        rw [hto]
        have e1 : t.fr.toNat = 1 - i := by rw [hfr]; exact Int.toNat_natCast _
        rw [e1] at f2
        show Mi (match W.nd i with | some x => ({ W.landed n.toNat with nd := setN W.nd i (some (x.hrd t)) } : Wo) | none => W.landed n.toNat)
        cases hy : W.nd i with
        | none => exact h1
        | some y => exact h1.handed hi hfr (show (W.landed n.toNat).nd i = some y from hy) f2 (fun x hx hl => h.nt (1 - i) x hx t hm hfr hl)
  · exact h
theorem Mi.stp {q : Nat} {W W' : Wo} (h : Mi W) (hI : In q W) (hA : Ap q W) (hq : q ≤ 900) (hr : RulesOk W.ru) (s : Stp W W') : Mi W' := by
  cases s with
  | tick n => exact h.tick hI hA hq n
  | down n => exact h.down n
  | up n => exact h.upN hI hq hr n
  | cut n m => exact h.cut n m
  | ins p => exact h.inside p
  | ots p => exact h.outside p
  | drop n => exact h.drop n
  | twice n => exact h.twice n
  | rules l hl => exact h.rules l 2
  | dlv n => exact h.dlv n
  | stay => exact h
end Go.Proofs.YtenonidmgpmohaaGreatDoor
