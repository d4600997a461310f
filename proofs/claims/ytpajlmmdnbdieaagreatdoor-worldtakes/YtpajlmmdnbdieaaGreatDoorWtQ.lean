/-
  The world of WorldTakes, phase by phase.
-/
import Derived.Test.YtpajlmmdnbdieaaGreatDoorKo
import Derived.Test.YtpajlmmdnbdieaaGreatDoorWoG
namespace Go.Proofs.YtpajlmmdnbdieaaGreatDoor
open Go.RowKit

def Qb (pr fl : Int) : Int → Int → Prop := fun st un => st = bgnS pr fl ∧ un = 10 + stay pr st
def clN (f : Nat) : Nf := ⟨f, 1, 2 - f, true, []⟩
def btN (f : Nat) (T : Tb) (c : Nat) : Nf := ⟨f, 1, 2 - f, false, (nxL T (fun _ => 0) c).map fun (i : Nat) => (⟨(i : Int), T i⟩ : Tc)⟩
/-- the first one has flows of these ends, j ticks behind. -/
structure PB (f : Nat) (pr fa fp fl : Int) (ds : List (Int × Int)) (j : Nat) (W : Wo) : Prop where
  hf : f < 2
  nd : ∃ x, W.nd f = some x ∧ Bn ds pr fa fp (2000 + (f : Int) * 24) (Qb pr fl) ruL (10 + j) x ∧ VeP x.T ds.length ∧ (j ≤ 1 → x.D = fun _ => 0) ∧ x.id = f ∧ x.life = 1 ∧ x.ro.ep = 2 - (f : Int) ∧ (2 ≤ j → ∃ c, W.fl = [clN f, btN f x.T c])
  ot : W.nd (1 - f) = some (No.new (1 - f) new0.oned ruL)
  sw : W.hn = f ∧ W.he = 2 - (f : Int)
  fl : j ≤ 1 → W.fl = []
theorem PB.zero {f : Nat} {W : Wo} (h : Ph ruL f 10 W) (pr fa fp fl : Int) : PB f pr fa fp fl [] 0 (W.dlv 0) := by
  obtain ⟨_, h1, h2, h3, _, h5, _⟩ := h.deliver
  obtain ⟨x, hx, q, hru, hD⟩ := h.nd
  have hro : x.ro = ⟨f, (Ro.new f ((0 : Nat) : Int)).nx, 10, true⟩ := by rw [q.ro]; unfold roQ; rw [if_neg (by omega)]
  refine ⟨h.hf, ⟨x, by rw [h5]; exact hx, ⟨by rw [hro], q.now, by unfold No.low; rw [q.ii], by rw [q.T]; exact BkT.new, hru, List.nodup_nil, by simp⟩, fun j hj => by simp at hj, fun _ => hD, q.ii, q.li, by rw [hro]; exact nx_zero h.hf, fun hq => by omega⟩, by rw [h5]; exact h.ot, ⟨h1, h2⟩, fun _ => h3⟩
theorem PB.cho {f : Nat} {pr fa fp fl : Int} {ds : List (Int × Int)} {j : Nat} {W : Wo} (h : PB f pr fa fp fl ds j W) {x : No} (hx : W.nd f = some x) : W.cho = some (f, x) := by
  have hf := h.hf
  unfold Wo.cho
  rw [if_neg (by rw [h.sw.2]; omega), h.sw.1, if_pos (by omega), Int.toNat_natCast, hx]
  rfl
theorem PB.inside {f : Nat} {pr fa fp fl : Int} {ds : List (Int × Int)} {W : Wo} (h : PB f pr fa fp fl ds 0 W) (e : Int × Int) (hp : (⟨pr, e.1, e.2, fa, fp, fl⟩ : Pk).err = 0) (hp0 : pr ≠ 0) (hb : bgnE pr fl = 0) (ha : adm ruL pr true fp = true)
    (hg : nxtG pr fl = false) (hs : nxtS pr (bgnS pr fl) fl true = bgnS pr fl) (hl : ds.length < 24) :
    ∃ (ds' : List (Int × Int)) (j : Nat), W.inE ⟨pr, e.1, e.2, fa, fp, fl⟩ = 0 ∧ W.inP ⟨pr, e.1, e.2, fa, fp, fl⟩ = ⟨pr, 1, 2000 + (f : Int) * 24 + j, fa, fp, fl⟩ ∧ (ds' = ds ∨ ds' = ds ++ [e]) ∧ ds'[j]? = some e ∧ PB f pr fa fp fl ds' 0 (W.ins ⟨pr, e.1, e.2, fa, fp, fl⟩) := by
  obtain ⟨x, hx, b, v, hD, hid, hli, hep, _⟩ := h.nd
  have hf := h.hf
  obtain ⟨ds', j, h1, h2, h3, h4, h5, h6, h7⟩ := b.inside v e fl hp hp0 hb ha hg (fun st un hq => ⟨by rw [hq.1]; exact hs, ⟨hq.1, rfl⟩⟩) ⟨rfl, rfl⟩ hl
  have hc := h.cho hx
  refine ⟨ds', j, by unfold Wo.inE; rw [hc]; exact h1, by unfold Wo.inP; rw [hc]; exact h2, h3, h4, ?_⟩
  have hins : W.ins ⟨pr, e.1, e.2, fa, fp, fl⟩ = { W with nd := setN W.nd f (some (x.ins ⟨pr, e.1, e.2, fa, fp, fl⟩)) } := by unfold Wo.ins; rw [hc]
  rw [hins]
  exact ⟨h.hf, ⟨_, setN_same _ _ _, h5, h6, fun _ => by rw [h7.D]; exact hD (by omega), by rw [h7.id]; exact hid, by rw [h7.life]; exact hli, by rw [h7.ro]; exact hep, fun hq => by omega⟩, by show setN W.nd f _ (1 - f) = _; rw [setN_other _ _ (by omega)]; exact h.ot, h.sw, h.fl⟩
theorem noted_ro (x : No) : x.noted.ro = x.ro ∧ x.noted.id = x.id ∧ x.noted.life = x.life := by unfold No.noted; split <;> exact ⟨rfl, rfl, rfl⟩
theorem PB.tick {f : Nat} {pr fa fp fl : Int} {ds : List (Int × Int)} {j : Nat} {W : Wo} (h : PB f pr fa fp fl ds j W) (hj : j ≤ 2) (hst : 4 ≤ stay pr (bgnS pr fl)) :
    (∀ (i : Nat) y, (f : Int) = i → W.nd i = some y → y.tkE = 0 ∨ y.tkE = 7) ∧ W.tcE (f : Int) = 0 ∧ PB f pr fa fp fl ds (j + 1) (W.tcd (f : Int)) := by
  obtain ⟨x, hx, b, v, hD, hid, hli, hep, hfl2⟩ := h.nd
  have hf := h.hf
  obtain ⟨hE, b'⟩ := b.tick (fun st un hq => by have := hq.2; rw [hq.1] at this; rw [this]; omega)
  obtain ⟨_, ht, ha⟩ := act_tick b.ac
  have hup : W.upE (f : Int) = 0 := by unfold Wo.upE; rw [if_pos (by omega), Int.toNat_natCast, hx]; rfl
  refine ⟨fun i y e hy => .inl (by have e2 : f = i := by omega
                                   subst e2; rw [hx] at hy; cases hy; exact hE), by unfold Wo.tcE; rw [if_pos hup, Int.toNat_natCast, hx]; exact hE, ?_⟩
  have htcd : W.tcd (f : Int) = W.ticked f x := by unfold Wo.tcd; rw [if_pos hup, Int.toNat_natCast, hx]
  rw [htcd]
  have hring : x.ro.rings = false := by unfold Ro.rings; rw [b.ac]; rfl
  have htk1 : x.tk1 = x.ticked := by unfold No.tk1; rw [hring]; rfl
  have hT : x.ticked.T = x.T := by
    show expT x.T (x.now + 1) 32 = _
    rw [b.nw]
    exact b.T.exp (fun st un hq => by have := hq.2; rw [hq.1] at this; rw [this]; omega)
  have hrt : x.ro.tick = x.ro := by unfold Ro.tick; rw [b.ac]; rfl
  have hro1 : x.ticked.ro = x.ro := hrt
  have hnow : x.ticked.now = ((10 + j + 1 : Nat) : Int) := by show x.now + 1 = _; rw [b.nw]; omega
  have hTt : x.tick.T = x.T := by rw [ht, noted_T, hT]
  have hdue : x.ticked.due = decide (j = 1) := by
    unfold No.due
    rw [hnow]
    have : j = 0 ∨ j = 1 ∨ j = 2 := by omega
    rcases this with rfl | rfl | rfl <;> rfl
  have hW : W.ticked f x = ({ W with nd := setN W.nd f (some x.tick) } : Wo).sent (x.tickL.map x.ticked.fly) := by
    unfold Wo.ticked
    rw [if_pos hE, b.ac, htk1]
    rfl
  have hLs : x.tickL = if j = 1 then [⟨true, []⟩, ⟨false, nxL x.T x.D x.cu⟩] else [] := by
    unfold No.tickL No.notes
    rw [if_pos hE, htk1, hro1, b.ac, hdue, hT]
    by_cases h1 : j = 1
    · rw [decide_eq_true h1, if_pos h1]; rfl
    · rw [decide_eq_false h1, if_neg h1]; rfl
  have hsame : x.tick.id = f ∧ x.tick.life = 1 ∧ x.tick.ro.ep = 2 - (f : Int) := by
    rw [ht]
    have q := noted_ro x.ticked
    exact ⟨q.2.1.trans hid, q.2.2.trans hli, by rw [q.1, hro1]; exact hep⟩
  rw [hW]
  by_cases h1 : j = 1
  · subst h1
    have hD0 := hD (by omega)
    have hmap : x.tickL.map x.ticked.fly = [clN f, btN f x.tick.T x.cu] := by
      rw [hLs, if_pos rfl, hD0]
      show [x.ticked.fly ⟨true, []⟩, x.ticked.fly ⟨false, nxL x.T (fun _ => 0) x.cu⟩] = _
      unfold No.fly clN btN
      rw [hTt, hT, hro1, hep]
      show [(⟨x.id, x.life, 2 - (f : Int), true, []⟩ : Nf), ⟨x.id, x.life, 2 - (f : Int), false, _⟩] = _
      rw [hid, hli]
    refine ⟨h.hf, ⟨x.tick, setN_same _ _ _, b', by rw [hTt]; exact v, fun hq => by omega, hsame.1, hsame.2.1, hsame.2.2, fun _ => ⟨x.cu, ?_⟩⟩, ?_, h.sw, fun hq => by omega⟩
    · show W.fl ++ List.take (200 - W.fl.length) (x.tickL.map x.ticked.fly) = _
      rw [h.fl (by omega), hmap]
      rfl
    · show setN W.nd f _ (1 - f) = _
      rw [setN_other _ _ (by omega)]
      exact h.ot
  · have hmap : x.tickL.map x.ticked.fly = [] := by rw [hLs, if_neg h1]; rfl
    have hDt : x.tick.D = x.D := by
      rw [ht]
      unfold No.noted
      rw [hdue, decide_eq_false h1, Bool.and_false]
      rfl
    have hflW : (({ W with nd := setN W.nd f (some x.tick) } : Wo).sent (x.tickL.map x.ticked.fly)).fl = W.fl := by
      show W.fl ++ List.take (200 - W.fl.length) (x.tickL.map x.ticked.fly) = _
      rw [hmap]
      simp
    refine ⟨h.hf, ⟨x.tick, setN_same _ _ _, b', by rw [hTt]; exact v, fun hq => by rw [hDt]; exact hD (by omega), hsame.1, hsame.2.1, hsame.2.2, fun hq => ?_⟩, ?_, h.sw, fun hq => by rw [hflW]; exact h.fl (by omega)⟩
    · obtain ⟨c, hc⟩ := hfl2 (by omega)
      exact ⟨c, by rw [hflW, hTt]; exact hc⟩
    · show setN W.nd f _ (1 - f) = _
      rw [setN_other _ _ (by omega)]
      exact h.ot
theorem hear_beat {f : Nat} (hf : f < 2) {T : Tb} {c : Nat} (hM : takeL newT ((nxL T (fun _ => 0) c).map fun (i : Nat) => (⟨(i : Int), T i⟩ : Tc)) = T) : Qm (1 - f) (2 - f) 1 (yNew new0) T ruL 0 ((No.new (1 - f) new0.oned ruL).hrd (btN f T c)) := by
  have e0 : newest new0.oned.B = ⟨0, 0, 0⟩ := Beg.zero.nw
  have hx := nx_spec T (fun _ => 0) c
  have hcl : ((nxL T (fun _ => 0) c).map fun (i : Nat) => (⟨(i : Int), T i⟩ : Tc)).length = 8 := by rw [List.length_map]; exact hx.len
  have hok : (((nxL T (fun _ => 0) c).map fun (i : Nat) => (⟨(i : Int), T i⟩ : Tc)).any fun x => !okS x) = false := by
    rw [List.any_eq_false]
    intro q hq
    obtain ⟨i, hi, rfl⟩ := List.mem_map.1 hq
    have := hx.lt i hi
    unfold okS
    rw [decide_eq_true (by show (0 : Int) ≤ (i : Int); omega), decide_eq_true (by show (i : Int) < 32; omega)]
    simp
  have ht : tellE 0 1 ((nxL T (fun _ => 0) c).map fun (i : Nat) => (⟨(i : Int), T i⟩ : Tc)) = 0 := by
    unfold tellE
    rw [if_neg, if_neg (by omega)]
    rintro (q | q | q)
    · omega
    · rw [hcl] at q; omega
    · rw [hok] at q; cases q
  have hhe : (No.new (1 - f) new0.oned ruL).heE (btN f T c) = 0 := by
    unfold No.heE
    rw [if_pos (by
      refine ⟨?_, ?_, ?_⟩
      · show (f : Int) = 1 - ((1 - f : Nat) : Int); omega
      · show (0 : Int) ≤ 2 - (f : Int); omega
      · show 2 - (f : Int) ≤ 1073741824; omega)]
    exact ht
  have hid : (No.new (1 - f) new0.oned ruL).hrd (btN f T c) = { No.new (1 - f) new0.oned ruL with ml := tellLife 0 1 (btN f T c).cs, mt := tellT 0 1 newT (btN f T c).cs, ro := (No.new (1 - f) new0.oned ruL).ro.hear (2 - (f : Int)) } := by
    unfold No.hrd
    rw [if_pos hhe]
    rfl
  have hmt : tellT 0 1 newT (btN f T c).cs = T := by
    unfold tellT
    rw [if_pos (show tellE 0 1 (btN f T c).cs = 0 from ht), if_pos (by omega)]
    exact hM
  have hro : (No.new (1 - f) new0.oned ruL).ro.hear (2 - (f : Int)) = roQ (1 - f) (2 - f) 0 := by
    have e1 : (No.new (1 - f) new0.oned ruL).ro = ⟨((1 - f : Nat) : Int), 0, 0, false⟩ := by
      show Ro.new ((1 - f : Nat) : Int) ((newest new0.oned.B).e : Int) = _
      rw [e0]
      rfl
    rw [e1]
    unfold Ro.hear Ro.heard isEpR roQ
    rw [decide_eq_true (by omega : (0 : Int) ≤ 2 - (f : Int)), decide_eq_true (by omega : 2 - (f : Int) ≤ 1073741824), decide_eq_false (by show ¬ 2 - (f : Int) < 0; omega), if_pos (show (true && true && !false) = true from rfl), if_pos (by omega)]
    have e2 : 2 - (f : Int) = ((2 - f : Nat) : Int) := by omega
    rw [e2]
    rfl
  rw [hid, hmt, hro]
  have ey : (No.new (1 - f) new0.oned ruL).y = yNew new0 := by rw [new_y, oned0]
  have eli : (No.new (1 - f) new0.oned ruL).life = ((1 : Nat) : Int) := by
    show (((newest new0.oned.B).l : Nat) : Int) + 1 = _
    rw [e0]
    rfl
  exact ⟨rfl, rfl, eli, rfl, by rw [if_pos (by omega)]; rfl, rfl, rfl, ey, rfl⟩
/-- what the other one has, behind the notes. -/
structure PD (f : Nat) (pr fa fp fl : Int) (ds : List (Int × Int)) (W : Wo) : Prop where
  hf : f < 2
  nd : ∃ x z, W.nd f = some x ∧ W.nd (1 - f) = some z ∧ BkT x.T ds pr fa fp (2000 + (f : Int) * 24) (Qb pr fl) ∧ Qm (1 - f) (2 - f) 1 (yNew new0) x.T ruL 0 z
  nu : ds.Nodup
  sw : W.he = 2 - (f : Int)
  fl : W.fl = []
/-- notes come one by one. -/
def PE (f : Nat) (pr fa fp fl : Int) (ds : List (Int × Int)) (k : Nat) (W : Wo) : Prop :=
  (k = 0 ∧ PB f pr fa fp fl ds 3 W) ∨ (k = 1 ∧ ∃ V, PB f pr fa fp fl ds 3 V ∧ W = V.landed 0) ∨ (2 ≤ k ∧ PD f pr fa fp fl ds W)
theorem PE.dlv {f : Nat} {pr fa fp fl : Int} {ds : List (Int × Int)} {k : Nat} {W : Wo} (h : PE f pr fa fp fl ds k W) (hp0 : pr ≠ 0) (h8 : ds.length ≤ 8) (hv : ∀ x, W.nd f = some x → ∃ m, Vers x.T m) : PE f pr fa fp fl ds (k + 1) (W.dlv 0) := by
  rcases h with ⟨rfl, b⟩ | ⟨rfl, V, b, rfl⟩ | ⟨hk, d⟩
  · obtain ⟨x, hx, bn, v, _, _, _, _, hfl⟩ := b.nd
    obtain ⟨c, hc⟩ := hfl (by omega)
    have hf := b.hf
    refine .inr (.inl ⟨rfl, W, b, ?_⟩)
    have e0 : W.flE 0 = 0 := by unfold Wo.flE; rw [hc, if_pos (by simp)]
    unfold Wo.dlv
    rw [if_pos e0, hc]
    show W.delivered 0 (clN f) = _
    unfold Wo.delivered
    show (W.landed 0).heard (clN f) = _
    unfold Wo.heard
    rw [if_neg]
    show ¬ W.he < 2 - (f : Int)
    rw [b.sw.2]
    omega
  · obtain ⟨x, hx, bn, v, _, _, _, _, hfl⟩ := b.nd
    obtain ⟨c, hc⟩ := hfl (by omega)
    have hf := b.hf
    have hlf : (V.landed 0).fl = [btN f x.T c] := by show V.fl.eraseIdx 0 = _; rw [hc]; rfl
    obtain ⟨m, hm⟩ := hv x hx
    refine .inr (.inr ⟨by omega, ?_⟩)
    have e0 : (V.landed 0).flE 0 = 0 := by unfold Wo.flE; rw [hlf, if_pos (by simp)]
    have e1 : (V.landed 0).dlv 0 = ((V.landed 0).landed 0).handed (btN f x.T c) := by
      unfold Wo.dlv
      rw [if_pos e0, hlf]
      rfl
    have e2 : ((V.landed 0).landed 0).handed (btN f x.T c) = { (V.landed 0).landed 0 with nd := setN V.nd (1 - f) (some ((No.new (1 - f) new0.oned ruL).hrd (btN f x.T c))) } := handed_some (i := 1 - f) (by show (1 - (f : Int)).toNat = 1 - f; omega) b.ot
    rw [e1, e2]
    refine ⟨hf, ⟨x, _, ?_, setN_same _ _ _, bn.T, hear_beat hf (mir_all bn.T hp0 v hm h8)⟩, bn.nd, b.sw.2, ?_⟩
    · show setN V.nd (1 - f) _ f = _
      rw [setN_other _ _ (by omega)]
      exact hx
    · show ((V.landed 0).fl).eraseIdx 0 = []
      rw [hlf]
      rfl
  · refine .inr (.inr ⟨by omega, ?_⟩)
    have e : W.dlv 0 = W := by
      unfold Wo.dlv
      rw [if_neg]
      unfold Wo.flE
      rw [d.fl, if_neg (by simp)]
      omega
    rw [e]
    exact d
/-- the first one is down; the other one has ticked so often. -/
structure PF (f : Nat) (pr fa fp fl : Int) (ds : List (Int × Int)) (j : Nat) (W : Wo) : Prop where
  hf : f < 2
  nd : ∃ M z, W.nd (1 - f) = some z ∧ BkT M ds pr fa fp (2000 + (f : Int) * 24) (Qb pr fl) ∧ Qm (1 - f) (2 - f) 1 (yNew new0) M ruL j z
  nu : ds.Nodup
  sw : W.he = 2 - (f : Int)
  fl : W.fl = if j ≤ 9 then [] else [⟨((1 - f : Nat) : Int), 1, (Ro.new ((1 - f : Nat) : Int) ((2 - f : Nat) : Int)).nx, true, []⟩]
theorem PD.down {f : Nat} {pr fa fp fl : Int} {ds : List (Int × Int)} {W : Wo} (h : PD f pr fa fp fl ds W) : W.upE (f : Int) = 0 ∧ PF f pr fa fp fl ds 0 (W.downed (f : Int)) := by
  obtain ⟨x, z, hx, hz, hT, q⟩ := h.nd
  have hf := h.hf
  have hup : W.upE (f : Int) = 0 := by unfold Wo.upE; rw [if_pos (by omega), Int.toNat_natCast, hx]; rfl
  refine ⟨hup, ?_⟩
  have e : W.downed (f : Int) = W.fallen f x.y := by unfold Wo.downed; rw [if_pos hup, Int.toNat_natCast, hx]
  rw [e]
  refine ⟨hf, ⟨x.T, z, ?_, hT, q⟩, h.nu, h.sw, by rw [if_pos (by omega)]; exact h.fl⟩
  show setN W.nd f none (1 - f) = _
  rw [setN_other _ _ (by omega)]
  exact hz
theorem nx_other {f : Nat} (hf : f < 2) : (Ro.new ((1 - f : Nat) : Int) ((2 - f : Nat) : Int)).nx = ((3 - f : Nat) : Int) := by
  rcases two_cases hf with rfl | rfl <;> rfl
theorem put_oth2 {f : Nat} (hf : f < 2) : (putE false (yNew new0) (Ro.new ((1 - f : Nat) : Int) ((2 - f : Nat) : Int)).nx ((1 : Nat) : Int)).1 = 0 := by
  rw [nx_other hf]
  exact (beg_one.put (ep := 3 - f) (li := 1) (by omega) (by omega) (by omega) (by omega)).1
theorem PF.tick {f : Nat} {pr fa fp fl : Int} {ds : List (Int × Int)} {j : Nat} {W : Wo} (h : PF f pr fa fp fl ds j W) (hj : j ≤ 9) :
    (∀ (i : Nat) y, ((1 - f : Nat) : Int) = i → W.nd i = some y → y.tkE = 0 ∨ y.tkE = 7) ∧ W.tcE ((1 - f : Nat) : Int) = 0 ∧ PF f pr fa fp fl ds (j + 1) (W.tcd ((1 - f : Nat) : Int)) := by
  obtain ⟨M, z, hz, hM, q⟩ := h.nd
  have hf := h.hf
  obtain ⟨hE, q'⟩ := q.tick hj (by omega) (put_oth2 hf)
  obtain ⟨n1, n2, n3, n4⟩ := q.notes hj hE q'
  have hup : W.upE ((1 - f : Nat) : Int) = 0 := by unfold Wo.upE; rw [if_pos (by omega), Int.toNat_natCast, hz]; rfl
  refine ⟨fun i y e hy => .inl (by have e2 : 1 - f = i := by omega
                                   subst e2; rw [hz] at hy; cases hy; exact hE), by unfold Wo.tcE; rw [if_pos hup, Int.toNat_natCast, hz]; exact hE, ?_⟩
  have htcd : W.tcd ((1 - f : Nat) : Int) = W.ticked (1 - f) z := by unfold Wo.tcd; rw [if_pos hup, Int.toNat_natCast, hz]
  have hfl0 : W.fl = [] := by rw [h.fl, if_pos hj]
  have hgen : ∃ V : Wo, W.tcd ((1 - f : Nat) : Int) = V.sent (z.tickL.map z.tk1.fly) ∧ V.nd = setN W.nd (1 - f) (some z.tick) ∧ V.fl = W.fl ∧ V.he = W.he := by
    rw [htcd]
    unfold Wo.ticked
    rw [if_pos hE]
    split
    · exact ⟨_, rfl, rfl, rfl, rfl⟩
    · exact ⟨_, rfl, rfl, rfl, rfl⟩
  obtain ⟨V, e1, e2, e3, e4⟩ := hgen
  rw [e1, n1]
  refine ⟨hf, ⟨M, z.tick, ?_, hM, q'⟩, h.nu, by show V.he = _; rw [e4]; exact h.sw, ?_⟩
  · show V.nd (1 - f) = _
    rw [e2]
    exact setN_same _ _ _
  · show V.fl ++ List.take (200 - V.fl.length) _ = _
    rw [e3, hfl0]
    by_cases h8 : j ≤ 8
    · rw [if_pos h8, if_pos (by omega)]; rfl
    · rw [if_neg h8, if_neg (by omega)]; rfl
/-- the switch knows the other one. -/
structure PH (f : Nat) (pr fa fp : Int) (ds : List (Int × Int)) (W : Wo) : Prop where
  hf : f < 2
  nd : ∃ z, W.nd (1 - f) = some z ∧ z.ro.ac = true ∧ BkT z.T ds pr fa fp (2000 + (f : Int) * 24) (fun _ _ => True)
  sw : W.hn = ((1 - f : Nat) : Int) ∧ W.he = ((3 - f : Nat) : Int)
  fl : W.fl = []
def PG (f : Nat) (pr fa fp fl : Int) (ds : List (Int × Int)) (k : Nat) (W : Wo) : Prop := (k = 0 ∧ PF f pr fa fp fl ds 10 W) ∨ (1 ≤ k ∧ PH f pr fa fp ds W)
theorem PG.dlv {f : Nat} {pr fa fp fl : Int} {ds : List (Int × Int)} {k : Nat} {W : Wo} (h : PG f pr fa fp fl ds k W) (hp0 : pr ≠ 0) (h8 : ds.length ≤ 8) : PG f pr fa fp fl ds (k + 1) (W.dlv 0) := by
  rcases h with ⟨rfl, p⟩ | ⟨hk, d⟩
  · obtain ⟨M, z, hz, hM, q⟩ := p.nd
    have hf := p.hf
    have hfl : W.fl = [⟨((1 - f : Nat) : Int), 1, ((3 - f : Nat) : Int), true, []⟩] := by rw [p.fl, if_neg (by omega), nx_other hf]
    refine .inr ⟨by omega, ?_⟩
    have e0 : W.flE 0 = 0 := by unfold Wo.flE; rw [hfl, if_pos (by simp)]
    have e1 : W.dlv 0 = { W.landed 0 with hn := ((1 - f : Nat) : Int), he := ((3 - f : Nat) : Int) } := by
      unfold Wo.dlv
      rw [if_pos e0, hfl]
      show W.delivered 0 ⟨((1 - f : Nat) : Int), 1, ((3 - f : Nat) : Int), true, []⟩ = _
      unfold Wo.delivered
      show (W.landed 0).heard ⟨((1 - f : Nat) : Int), 1, ((3 - f : Nat) : Int), true, []⟩ = _
      unfold Wo.heard
      rw [if_pos]
      show W.he < ((3 - f : Nat) : Int)
      rw [p.sw]
      omega
    rw [e1]
    refine ⟨hf, ⟨z, hz, by rw [q.ro]; unfold roQ; rw [if_neg (by omega)], ?_⟩, ⟨rfl, rfl⟩, by show W.fl.eraseIdx 0 = []; rw [hfl]; rfl⟩
    rw [q.T, if_neg (by omega)]
    exact ad_all hM hp0 p.nu (by omega) 10
  · refine .inr ⟨by omega, ?_⟩
    have e : W.dlv 0 = W := by
      unfold Wo.dlv
      rw [if_neg]
      unfold Wo.flE
      rw [d.fl, if_neg (by simp)]
      omega
    rw [e]
    exact d
theorem PH.outside {f : Nat} {pr fa fp : Int} {ds : List (Int × Int)} {W : Wo} (h : PH f pr fa fp ds W) (h24 : ds.length ≤ 24) {j : Nat} {e : Int × Int} (he : ds[j]? = some e) (fl : Int) (hp : (⟨pr, fa, fp, 1, 2000 + (f : Int) * 24 + j, fl⟩ : Pk).err = 0) (hp0 : pr ≠ 0) (hg : nxtG pr fl = false) :
    W.otE ⟨pr, fa, fp, 1, 2000 + (f : Int) * 24 + j, fl⟩ = 0 ∧ W.otP ⟨pr, fa, fp, 1, 2000 + (f : Int) * 24 + j, fl⟩ = ⟨pr, fa, fp, e.1, e.2, fl⟩ ∧ PH f pr fa fp ds (W.ots ⟨pr, fa, fp, 1, 2000 + (f : Int) * 24 + j, fl⟩) := by
  obtain ⟨z, hz, hac, hT⟩ := h.nd
  have hf := h.hf
  obtain ⟨h1, h2, h3, h4⟩ := bk_outside hac hT h24 he fl hp hp0 hg
  have hc : W.cho = some (1 - f, z) := by
    unfold Wo.cho
    rw [if_neg (by rw [h.sw.2]; omega), h.sw.1, if_pos (by omega), Int.toNat_natCast, hz]
    rfl
  have hots : W.ots ⟨pr, fa, fp, 1, 2000 + (f : Int) * 24 + j, fl⟩ = { W with nd := setN W.nd (1 - f) (some (z.ots ⟨pr, fa, fp, 1, 2000 + (f : Int) * 24 + j, fl⟩)) } := by unfold Wo.ots; rw [hc]
  refine ⟨by unfold Wo.otE; rw [hc]; exact h1, by unfold Wo.otP; rw [hc]; exact h2, ?_⟩
  rw [hots]
  exact ⟨hf, ⟨_, setN_same _ _ _, by rw [h4]; exact hac, h3⟩, h.sw, h.fl⟩
end Go.Proofs.YtpajlmmdnbdieaaGreatDoor
