/-
  The law PolicyShadow, walked.
-/
import Derived.Test.YtklfmlbhkijgoaaDoorPsD
import Derived.Test.YtklfmlbhkijgoaaDoorPoJ
import Derived.Deep.DeepCutAuto
import Derived.Deep.CutRange
namespace Go.Proofs.YtklfmlbhkijgoaaDoor
open Go.RowKit

theorem Rul.take {w : World} {p : Option Addr} {l : List Rl} (R : Rul w p l) (k : Nat) : Rul w p (l.take k) := fun i r hr => by
  rw [List.getElem?_take] at hr
  split at hr
  · exact R i r hr
  · cases hr
theorem Rul.drop {w : World} {b o : Nat} {l : List Rl} (R : Rul w (some ⟨b, o, none⟩) l) (k : Nat) : Rul w (some ⟨b, o + k * 5, none⟩) (l.drop k) := fun i r hr => by
  rw [List.getElem?_drop] at hr
  obtain ⟨b', o', e, h0, h1, h2, h3, h4⟩ := R (k + i) r hr
  obtain ⟨rfl, rfl, _⟩ := Addr.mk.inj (Option.some.inj e)
  refine ⟨b, o + k * 5, rfl, ?_⟩
  have e6 : o + k * 5 + i * 5 = o + (k + i) * 5 := by omega
  rw [e6]
  exact ⟨h0, h1, h2, h3, h4⟩
theorem more_sl {w : World} {base n : Nat} {v : Value} {a c : List Rl} {b : Rl} (h : w.ownsRow base 55 5 v n (cellsL (a ++ [b]) ++ cellsL c)) : Sl w v (a ++ b :: c) := by
  have e : cellsL (a ++ [b]) ++ cellsL c = cellsL (a ++ b :: c) := by
    rw [← cellsL_append, List.append_assoc]; rfl
  rw [e] at h
  exact (Sl.of_own h).1
/-- the rule behind has what the one ahead of it has, at most. -/
theorem shadow_b {d r : Rl} {c1 c2 : Bool} {pr lo tp : Int} (C1 : c1 = decide (r.lo ≤ d.lo ∧ d.tp ≤ r.tp ∧ d.lo ≤ d.tp)) (C2 : c2 = decide (r.pr = 0 ∧ 0 ≤ d.pr ∧ d.pr ≤ 2))
    (LO : lo = if c1 = true then d.lo else r.lo) (TP : tp = if c1 = true then d.tp else r.tp) (PR : pr = if c2 = true then d.pr else r.pr) :
    (r.lo ≤ lo ∧ tp ≤ r.tp) ∧ (r.lo ≤ r.tp → lo ≤ tp) ∧ (r.pr = 0 ∧ 0 ≤ pr ∧ pr ≤ 2 ∨ pr = r.pr) := by
  subst C1 C2
  by_cases h1 : r.lo ≤ d.lo ∧ d.tp ≤ r.tp ∧ d.lo ≤ d.tp
  · rw [if_pos (decide_eq_true h1)] at LO TP
    by_cases h2 : r.pr = 0 ∧ 0 ≤ d.pr ∧ d.pr ≤ 2
    · rw [if_pos (decide_eq_true h2)] at PR
      omega
    · rw [if_neg (by simpa using h2)] at PR
      omega
  · rw [if_neg (by simpa using h1)] at LO TP
    by_cases h2 : r.pr = 0 ∧ 0 ≤ d.pr ∧ d.pr ≤ 2
    · rw [if_pos (decide_eq_true h2)] at PR
      omega
    · rw [if_neg (by simpa using h2)] at PR
      omega
theorem take_at {l : List Rl} {n : Nat} {r : Rl} (h : l[n]? = some r) : l.take (n + 1) = l.take n ++ [r] := by
  rw [List.take_add_one, h]; rfl
theorem shadow_ok {l : List Rl} {n : Nat} {d r : Rl} {c1 c2 : Bool} {pr lo tp : Int} (hk : RulesOk l) (hl : l.length < 20) (hn : l[n]? = some r) (C1 : c1 = decide (r.lo ≤ d.lo ∧ d.tp ≤ r.tp ∧ d.lo ≤ d.tp)) (C2 : c2 = decide (r.pr = 0 ∧ 0 ≤ d.pr ∧ d.pr ≤ 2))
    (LO : lo = if c1 = true then d.lo else r.lo) (TP : tp = if c1 = true then d.tp else r.tp) (PR : pr = if c2 = true then d.pr else r.pr) :
    RulesOk (l.take (n + 1) ++ ⟨d.al, r.ou, pr, lo, tp⟩ :: l.drop (n + 1)) := by
  obtain ⟨h1, h2, h3⟩ := shadow_b C1 C2 LO TP PR
  have hall := chkAt_none.1 hk.2
  obtain ⟨ho0, ho1, ho2, ho3⟩ := hall r (List.mem_of_getElem? hn)
  obtain ⟨hlt, _⟩ := List.getElem?_eq_some_iff.1 hn
  refine ⟨?_, chkAt_none.2 fun y hy => ?_⟩
  · rw [List.length_append, List.length_cons, List.length_take, List.length_drop]; omega
  · rcases List.mem_append.1 hy with hy | hy
    · exact hall y (List.mem_of_mem_take hy)
    · rcases List.mem_cons.1 hy with rfl | hy
      · refine ⟨?_, ?_, ?_, ?_⟩ <;> simp only <;> omega
      · exact hall y (List.mem_of_mem_drop hy)
theorem shadow_same {l : List Rl} {n : Nat} {d r : Rl} {c1 c2 : Bool} {pr lo tp : Int} (hn : l[n]? = some r) (C1 : c1 = decide (r.lo ≤ d.lo ∧ d.tp ≤ r.tp ∧ d.lo ≤ d.tp)) (C2 : c2 = decide (r.pr = 0 ∧ 0 ≤ d.pr ∧ d.pr ≤ 2))
    (LO : lo = if c1 = true then d.lo else r.lo) (TP : tp = if c1 = true then d.tp else r.tp) (PR : pr = if c2 = true then d.pr else r.pr) :
    sameL l (l.take (n + 1) ++ ⟨d.al, r.ou, pr, lo, tp⟩ :: l.drop (n + 1)) = true := by
  obtain ⟨h1, h2, h3⟩ := shadow_b C1 C2 LO TP PR
  refine sameL_of_eq fun q ou x => ?_
  have e : l = l.take n ++ r :: l.drop (n + 1) := by
    have := (List.take_append_drop (n + 1) l).symm
    rw [take_at hn, List.append_assoc] at this
    exact this
  have e2 : l.take (n + 1) ++ (⟨d.al, r.ou, pr, lo, tp⟩ : Rl) :: l.drop (n + 1) = l.take n ++ r :: ⟨d.al, r.ou, pr, lo, tp⟩ :: l.drop (n + 1) := by
    rw [take_at hn, List.append_assoc]; rfl
  rw [e2, adm_shadow (b := ⟨d.al, r.ou, pr, lo, tp⟩) (r := r), ← e]
  intro hb
  rw [has_iff] at hb ⊢
  obtain ⟨b1, b2, b3, b4⟩ := hb
  simp only at b1 b2 b3 b4
  exact ⟨b1, by omega, by omega, by omega⟩
set_option maxRecDepth 100000 in
set_option maxHeartbeats 4000000 in
theorem shadow_any (v0 : Value) (l : List Rl) (at' : Int) (d : Rl) (s : Nat → Addr) (w : World) (E : EnvQ w s) (L : Sl w v0 l) :
    Calls Tryd.prog 5 #[v0, .int .i64 at', .agg #[.bool d.al, .bool d.ou, .int .i64 d.pr, .int .i64 d.lo, .int .i64 d.tp]] w fun e w' => e = .returned (.bool true) ∧ Below w.heap.size w w' := by
  have HE : Hid (EnvQ w s) := E
  have HL : Hid (Sl w v0 l) := L
  obtain ⟨p, cap, hv0, R0⟩ := L.open
  have HR : Hid (Rul w p l) := R0
  subst hv0
  clear E L R0
  have B0 : Hid (Below w.heap.size w (w.alloc (.cells #[.bool d.al, .bool d.ou, .int .i64 d.pr, .int .i64 d.lo, .int .i64 d.tp] 55))) := (Below.refl _ _).alloc (Nat.le_refl _) _
  have D0 : Hid (Rb (w.alloc (.cells #[.bool d.al, .bool d.ou, .int .i64 d.pr, .int .i64 d.lo, .int .i64 d.tp] 55)) w.heap.size d) := ⟨by simp, by simp, by simp, by simp, by simp⟩
  go_enter Tryd.func5, Tryd.ntmps5
  go_wp2_with fail
  refine (ruled_any s _ (HE.out.below B0.out)).mono ?_
  rintro e w1 ⟨rfl, hb1⟩
  have D1 : Hid (Rb w1 w.heap.size d) := D0.out.below hb1
  have B1 : Hid (Below w.heap.size w w1) := below2 B0.out hb1
  clear hb1
  by_cases hs1 : l.length < 1
  · go_wp2_with fail
    all_goals go_ret
    all_goals exact ⟨rfl, B1.out⟩
  by_cases hs2 : 20 ≤ l.length
  · go_wp2_with fail
    all_goals go_ret
    all_goals exact ⟨rfl, B1.out⟩
  by_cases hs3 : at' < 0
  · go_wp2_with fail
    all_goals go_ret
    all_goals exact ⟨rfl, B1.out⟩
  by_cases hs4 : (l.length : Int) ≤ at'
  · go_wp2_with fail
    all_goals go_ret
    all_goals exact ⟨rfl, B1.out⟩
  obtain ⟨n, rfl⟩ : ∃ n : Nat, at' = n := ⟨at'.toNat, by omega⟩
  have hn : n < l.length := by omega
  have hl : l.length < 20 := by omega
  clear hs1 hs2 hs3 hs4
  go_wp2_with fail
  refine (own_any _ l _ (HL.out.below B1.out) (by omega)).mono ?_
  rintro e w2 ⟨⟨v2, rfl, hv2⟩, hb2⟩
  obtain ⟨p2, k2, rfl, hR2⟩ := hv2.open
  have R2 : Hid (Rul w2 p2 l) := hR2
  have B2 : Hid (Below w.heap.size w w2) := below2 B1.out hb2
  have D2 : Hid (Rb w2 w.heap.size d) := D1.out.below hb2
  clear hv2 hR2 hb2
  go_wp2_with fail
  refine (pcheck_any p2 l k2 s _ (HE.out.s.below B2.out) R2.out (by omega)).mono ?_
  rintro e w3 ⟨⟨v3, rfl, hv3⟩, hb3⟩
  have B3 : Hid (Below w.heap.size w w3) := below2 B2.out hb3
  have D3 : Hid (Rb w3 w.heap.size d) := D2.out.below hb3
  have V3 := chk_ok hv3
  clear hv3 hb3
  rcases V3 with ⟨hok, rfl⟩ | ⟨_, t, x, rfl⟩
  rotate_left
  · go_wp2_with fail
    go_ret
    exact ⟨rfl, B3.out⟩
  have HK : Hid (RulesOk l) := hok
  clear hok
  have hr : l[n]? = some l[n] := List.getElem?_eq_getElem hn
  obtain ⟨r, er⟩ : ∃ r, r = l[n] := ⟨_, rfl⟩
  rw [← er] at hr
  have HN : Hid (l[n]? = some r) := hr
  obtain ⟨x, o, rfl, g0, g1, g2, g3, g4⟩ := HR.out n r hr
  have k0 := Below.keeps B3.out g0
  have k1 := Below.keeps B3.out g1
  have k2 := Below.keeps B3.out g2
  have k3 := Below.keeps B3.out g3
  have k4 := Below.keeps B3.out g4
  clear g0 g1 g2 g3 g4 hr er
  have d0 := D3.out.c0
  have d2 := D3.out.c2
  have d3 := D3.out.c3
  have d4 := D3.out.c4
  have q0 : w.heap.size < w3.heap.size := cell_lt d0
  obtain ⟨hroom, hmax⟩ := HL.out.room
  have hmax : cap ≤ 9223372036854775807 := hmax
  have hc1 : ∃ c, c = decide (r.lo ≤ d.lo ∧ d.tp ≤ r.tp ∧ d.lo ≤ d.tp) := ⟨_, rfl⟩
  obtain ⟨c1, hc1⟩ := hc1
  have C1 : Hid (c1 = decide (r.lo ≤ d.lo ∧ d.tp ≤ r.tp ∧ d.lo ≤ d.tp)) := hc1
  have hc2 : ∃ c, c = decide (r.pr = 0 ∧ 0 ≤ d.pr ∧ d.pr ≤ 2) := ⟨_, rfl⟩
  obtain ⟨c2, hc2⟩ := hc2
  have C2 : Hid (c2 = decide (r.pr = 0 ∧ 0 ≤ d.pr ∧ d.pr ≤ 2)) := hc2
  clear hc1 hc2
  go_upto_region 9 with fail
  go_cut [67] (fun s67 wx => s67 = .bool c1 ∧ (w3.alloc (.cells #[.bool r.al, .bool r.ou, .int .i64 r.pr, .int .i64 r.lo, .int .i64 r.tp] 55)).alloc (.cells #[.bool d.al, .bool r.ou, .int .i64 r.pr, .int .i64 r.lo, .int .i64 r.tp] 55) = wx)
  case first =>
    go_wp2_with fail
    all_goals go_meet
    all_goals refine ⟨congrArg Value.bool ?_, rfl⟩
    all_goals rw [C1.out]
    all_goals first | exact decide_eq_decide.2 (by omega) | exact (decide_eq_false (by omega)).symm
  obtain ⟨rfl, rfl⟩ := hcut
  have hlo : ∃ x, x = if c1 = true then d.lo else r.lo := ⟨_, rfl⟩
  obtain ⟨lo, hlo⟩ := hlo
  have htp : ∃ x, x = if c1 = true then d.tp else r.tp := ⟨_, rfl⟩
  obtain ⟨tp, htp⟩ := htp
  have hpr : ∃ x, x = if c2 = true then d.pr else r.pr := ⟨_, rfl⟩
  obtain ⟨pr, hpr⟩ := hpr
  have LO : Hid (lo = if c1 = true then d.lo else r.lo) := hlo
  have TP : Hid (tp = if c1 = true then d.tp else r.tp) := htp
  have PR : Hid (pr = if c2 = true then d.pr else r.pr) := hpr
  clear hlo htp hpr
  go_upto_if 67 with fail
  go_cut [] (fun wx => (w3.alloc (.cells #[.bool r.al, .bool r.ou, .int .i64 r.pr, .int .i64 r.lo, .int .i64 r.tp] 55)).alloc (.cells #[.bool d.al, .bool r.ou, .int .i64 r.pr, .int .i64 lo, .int .i64 tp] 55) = wx)
  case first =>
    have LO' := LO.out
    have TP' := TP.out
    cases c1
    · simp only [Bool.false_eq_true, if_false] at LO' TP'
      subst LO' TP'
      go_wp2_with fail
      all_goals go_meet
      all_goals rfl
    · simp only [if_true] at LO' TP'
      subst LO' TP'
      go_wp2_with fail
      all_goals go_meet
      all_goals rfl
  subst hcut
  go_upto_region 12 with fail
  go_cut [86] (fun s86 wx => s86 = .bool c2 ∧ (w3.alloc (.cells #[.bool r.al, .bool r.ou, .int .i64 r.pr, .int .i64 r.lo, .int .i64 r.tp] 55)).alloc (.cells #[.bool d.al, .bool r.ou, .int .i64 r.pr, .int .i64 lo, .int .i64 tp] 55) = wx)
  case first =>
    go_wp2_with fail
    all_goals go_meet
    all_goals refine ⟨congrArg Value.bool ?_, by first | rfl | rw [show r.pr = 0 from by assumption]⟩
    all_goals rw [C2.out]
    all_goals first | exact decide_eq_decide.2 (by omega) | exact (decide_eq_false (by omega)).symm
  obtain ⟨rfl, rfl⟩ := hcut
  go_upto_if 86 with fail
  go_cut [] (fun wx => (w3.alloc (.cells #[.bool r.al, .bool r.ou, .int .i64 r.pr, .int .i64 r.lo, .int .i64 r.tp] 55)).alloc (.cells #[.bool d.al, .bool r.ou, .int .i64 pr, .int .i64 lo, .int .i64 tp] 55) = wx)
  case first =>
    have PR' := PR.out
    cases c2
    · simp only [Bool.false_eq_true, if_false] at PR'
      subst PR'
      go_wp2_with fail
      all_goals go_meet
      all_goals rfl
    · simp only [if_true] at PR'
      subst PR'
      go_wp2_with fail
      all_goals go_meet
      all_goals rfl
  subst hcut
  have B4 : Hid (Below w.heap.size w ((w3.alloc (.cells #[.bool r.al, .bool r.ou, .int .i64 r.pr, .int .i64 r.lo, .int .i64 r.tp] 55)).alloc (.cells #[.bool d.al, .bool r.ou, .int .i64 pr, .int .i64 lo, .int .i64 tp] 55))) := (B3.out.alloc B3.out.size _).alloc (by have := B3.out.size; simp; omega) _
  have D4 : Hid (Rb ((w3.alloc (.cells #[.bool r.al, .bool r.ou, .int .i64 r.pr, .int .i64 r.lo, .int .i64 r.tp] 55)).alloc (.cells #[.bool d.al, .bool r.ou, .int .i64 pr, .int .i64 lo, .int .i64 tp] 55)) (w3.heap.size + 1) ⟨d.al, r.ou, pr, lo, tp⟩) := ⟨by simp [go_sem], by simp [go_sem], by simp [go_sem], by simp [go_sem], by simp [go_sem]⟩
  clear k0 k1 k2 k3 k4 d0 d2 d3 d4 q0
  generalize (w3.alloc (.cells #[.bool r.al, .bool r.ou, .int .i64 r.pr, .int .i64 r.lo, .int .i64 r.tp] 55)).alloc (.cells #[.bool d.al, .bool r.ou, .int .i64 pr, .int .i64 lo, .int .i64 tp] 55) = w4 at *
  generalize w3.heap.size + 1 = bb at *
  obtain ⟨i0, hi, hz0, hz1, hz2⟩ := info_parts Tryd.infoRl
  have N1 : Hid (∀ j u, (cellsL (l.take (n + 1)))[j]? = some u → w4.cell? (Addr.add ⟨x, o, none⟩ j) = some u) := ((HR.out.below B4.out).take (n + 1)).at
  have hlen1 : (cellsL (l.take (n + 1))).length = (n + 1) * 5 := by rw [cellsL_len, List.length_take]; omega
  go_wp2_with (at_builtin; refine wpList_append_own _ rfl _ _ 35 rfl w.heap.size 55 i0 _ 5 32 Tryd.underlying35 hi hz0 hz1 hz2 rfl (by decide) _ 0 [] rfl (World.ownsRow_nil _ _ _ _) ⟨x, o, none⟩ (n + 1) cap (cellsL (l.take (n + 1))) rfl hlen1 N1.out (cellsL_one _) (by unfold maxLen; omega) (by omega) B4.out.size ?_)
  intro v5 w5 hO5 hg5 _
  have O5 : Hid (w5.ownsRow w.heap.size 55 5 v5 (n + 1) (cellsL (l.take (n + 1)))) := by
    show w5.ownsRow _ _ _ _ _ _
    simpa using hO5
  have G5 : Hid (Below w4.heap.size w4 w5) := (Below.refl _ _).grown hg5 (Nat.le_refl _) (fun j hj => by cases hj)
  have B5 : Hid (Below w.heap.size w w5) := below2 B4.out G5.out
  have D5 : Hid (Rb w5 bb ⟨d.al, r.ou, pr, lo, tp⟩) := D4.out.below G5.out
  clear hO5 hg5 hlen1 N1
  have e0 := D5.out.c0
  have e1 := D5.out.c1
  have e2 := D5.out.c2
  have e3 := D5.out.c3
  have e4 := D5.out.c4
  have N2 : Hid (∀ j u, (cellsL [⟨d.al, r.ou, pr, lo, tp⟩])[j]? = some u → (w5.alloc (.cells #[.bool d.al, .bool r.ou, .int .i64 pr, .int .i64 lo, .int .i64 tp] 55)).cell? (Addr.add ⟨w5.heap.size, 0, none⟩ j) = some u) := (rul_new w5 ⟨d.al, r.ou, pr, lo, tp⟩).at
  go_wp2_with (at_builtin; refine wpList_append_own _ rfl _ _ 35 rfl w.heap.size 55 i0 _ 5 32 Tryd.underlying35 hi hz0 hz1 hz2 rfl (by decide) _ (n + 1) (cellsL (l.take (n + 1))) rfl (O5.out.alloc _) ⟨w5.heap.size, 0, none⟩ 1 1 (cellsL [⟨d.al, r.ou, pr, lo, tp⟩]) rfl rfl N2.out (cellsL_one _) (by unfold maxLen; omega) (by omega) (by exact (B5.out.alloc B5.out.size _).size) ?_)
  intro v6 w6 hO6 hg6 _
  have O6 : Hid (w6.ownsRow w.heap.size 55 5 v6 (n + 1 + 1) (cellsL (l.take (n + 1) ++ [⟨d.al, r.ou, pr, lo, tp⟩]))) := by
    show w6.ownsRow _ _ _ _ _ _
    rw [cellsL_append]; exact hO6
  have G6 : Hid (Below w.heap.size w w6) := (B5.out.alloc B5.out.size _).grown hg6 (by have := B5.out.size; simp; omega) (fun j hj => (O5.out.lt _ hj).1)
  clear hO6 hg6 N2 e0 e1 e2 e3 e4 D5 G5
  have hlen3 : (cellsL (l.drop (n + 1))).length = (l.length - (n + 1)) * 5 := by rw [cellsL_len, List.length_drop]
  have HMORE : Hid (RulesOk (l.take (n + 1) ++ ⟨d.al, r.ou, pr, lo, tp⟩ :: l.drop (n + 1))) := shadow_ok HK.out hl HN.out C1.out C2.out LO.out TP.out PR.out
  have HSAME : Hid (sameL l (l.take (n + 1) ++ ⟨d.al, r.ou, pr, lo, tp⟩ :: l.drop (n + 1)) = true) := shadow_same HN.out C1.out C2.out LO.out TP.out PR.out
  obtain ⟨M, hM⟩ : ∃ M, M = l.take (n + 1) ++ ⟨d.al, r.ou, pr, lo, tp⟩ :: l.drop (n + 1) := ⟨_, rfl⟩
  rw [← hM] at HMORE HSAME
  have HM : Hid (M = l.take (n + 1) ++ ⟨d.al, r.ou, pr, lo, tp⟩ :: l.drop (n + 1)) := hM
  clear hM
  have hl1 : l.length ≤ 1000 := by omega
  have hM1 : M.length ≤ 1000 := by have := HMORE.out.1; omega
  by_cases hcap : cap = n + 1
  · subst hcap
    have hdr : l.drop (n + 1) = [] := List.drop_eq_nil_of_le hroom
    go_wp2_with (at_builtin; refine wpList_append_own _ rfl _ _ 35 rfl w.heap.size 55 i0 _ 5 32 Tryd.underlying35 hi hz0 hz1 hz2 rfl (by decide) v6 (n + 1 + 1) (cellsL (l.take (n + 1) ++ [⟨d.al, r.ou, pr, lo, tp⟩])) rfl O6.out ⟨x, o, none⟩ 0 0 [] rfl rfl (fun j u h => by simp at h) (fun u h => by cases h) (by unfold maxLen; omega) (by omega) G6.out.size ?_)
    intro v7 w7 hO7 hg7 _
    have S7 : Hid (Sl w7 v7 M) := by
      show Sl w7 v7 M
      rw [HM.out, hdr]
      exact (Sl.of_own hO7).1
    have B7 : Hid (Below w.heap.size w w7) := G6.out.grown hg7 G6.out.size (fun j hj => (O6.out.lt _ hj).1)
    clear hO7 hg7 hlen3 hdr
    obtain ⟨p7, k7, rfl, hR7⟩ := S7.out.open
    have R7 : Hid (Rul w7 p7 M) := hR7
    clear hR7 S7
    go_wp2_with fail
    refine (own_any _ l _ (HL.out.below B7.out) (by omega)).mono ?_
    rintro e w8 ⟨⟨v8, rfl, hv8⟩, hb8⟩
    obtain ⟨p8, k8, rfl, hR8⟩ := hv8.open
    have R8 : Hid (Rul w8 p8 l) := hR8
    have Q8 : Hid (Rul w8 p7 M) := R7.out.below hb8
    have B8 : Hid (Below w.heap.size w w8) := below2 B7.out hb8
    clear hv8 hR8 hb8 R7
    go_wp2_with fail
    refine (same_any p8 p7 l M k8 k7 s _ (HE.out.s.below B8.out) R8.out Q8.out hl1 hM1).mono ?_
    rintro e w9 ⟨⟨v9, x9, rfl, hV9⟩, hb9⟩
    obtain ⟨rfl, rfl⟩ : v9 = .nilIface ∧ x9 = true := by
      rcases hV9 with ⟨h1, _⟩ | ⟨_, h1, _⟩ | ⟨_, _, h1, h2⟩
      · exact absurd HK.out h1
      · exact absurd HMORE.out h1
      · exact ⟨h1, h2.trans HSAME.out⟩
    have B9 : Hid (Below w.heap.size w w9) := below2 B8.out hb9
    clear hV9 hb9
    go_wp2_with fail
    go_ret
    exact ⟨rfl, B9.out⟩
  · have N3 : Hid (∀ j u, (cellsL (l.drop (n + 1)))[j]? = some u → w6.cell? (Addr.add ⟨x, o + (n + 1) * 5, none⟩ j) = some u) := ((HR.out.below G6.out).drop (n + 1)).at
    go_wp2_with (at_builtin; refine wpList_append_own _ rfl _ _ 35 rfl w.heap.size 55 i0 _ 5 32 Tryd.underlying35 hi hz0 hz1 hz2 rfl (by decide) v6 (n + 1 + 1) (cellsL (l.take (n + 1) ++ [⟨d.al, r.ou, pr, lo, tp⟩])) rfl O6.out ⟨x, o + (n + 1) * 5, none⟩ (l.length - (n + 1)) _ (cellsL (l.drop (n + 1))) rfl hlen3 N3.out (cellsL_one _) (by unfold maxLen; omega) (by omega) G6.out.size ?_)
    intro v7 w7 hO7 hg7 _
    have S7 : Hid (Sl w7 v7 M) := by
      show Sl w7 v7 M
      rw [HM.out]
      exact more_sl hO7
    have B7 : Hid (Below w.heap.size w w7) := G6.out.grown hg7 G6.out.size (fun j hj => (O6.out.lt _ hj).1)
    clear hO7 hg7 hlen3 N3
    obtain ⟨p7, k7, rfl, hR7⟩ := S7.out.open
    have R7 : Hid (Rul w7 p7 M) := hR7
    clear hR7 S7
    go_wp2_with fail
    refine (own_any _ l _ (HL.out.below B7.out) (by omega)).mono ?_
    rintro e w8 ⟨⟨v8, rfl, hv8⟩, hb8⟩
    obtain ⟨p8, k8, rfl, hR8⟩ := hv8.open
    have R8 : Hid (Rul w8 p8 l) := hR8
    have Q8 : Hid (Rul w8 p7 M) := R7.out.below hb8
    have B8 : Hid (Below w.heap.size w w8) := below2 B7.out hb8
    clear hv8 hR8 hb8 R7
    go_wp2_with fail
    refine (same_any p8 p7 l M k8 k7 s _ (HE.out.s.below B8.out) R8.out Q8.out hl1 hM1).mono ?_
    rintro e w9 ⟨⟨v9, x9, rfl, hV9⟩, hb9⟩
    obtain ⟨rfl, rfl⟩ : v9 = .nilIface ∧ x9 = true := by
      rcases hV9 with ⟨h1, _⟩ | ⟨_, h1, _⟩ | ⟨_, _, h1, h2⟩
      · exact absurd HK.out h1
      · exact absurd HMORE.out h1
      · exact ⟨h1, h2.trans HSAME.out⟩
    have B9 : Hid (Below w.heap.size w w9) := below2 B8.out hb9
    clear hV9 hb9
    go_wp2_with fail
    go_ret
    exact ⟨rfl, B9.out⟩
end Go.Proofs.YtklfmlbhkijgoaaDoor
