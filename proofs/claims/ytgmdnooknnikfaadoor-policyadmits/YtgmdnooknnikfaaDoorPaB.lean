/-
  The document's answer: SameOf.
-/
import Derived.Test.YtgmdnooknnikfaaDoorPaA
import Derived.Test.YtgmdnooknnikfaaDoorPsB
import Derived.Deep.RegionHeld3
namespace Go.Proofs.YtgmdnooknnikfaaDoor
open Go.RowKit

/-- 'append(own, v...)', v a slice of rules, nil too. -/
theorem wpList_append_rules {w : World} {ops : Array Oper} {rest : List Oper} {o : Oper} {a : Act} {Q : Exit → Act → World → Prop} (hgd : o.guard = none) (s x : Operand)
    (ho : o.op = .call { callee := .builtin .append, args := #[s, x], argTypes := #[35, 35] })
    (base : Nat) (v : Value) (n : Nat) (ys : List Rl) (hs : a.eval s = v) (hown : w.ownsRow base 55 5 v n (cellsL ys))
    (vx : Value) (xs : List Rl) (hx : a.eval x = vx) (hI : Sl w vx xs) (h63 : n + xs.length ≤ 1000000) (hbase : base ≤ w.heap.size)
    (h : ∀ v' w', w'.ownsRow base 55 5 v' (n + xs.length) (cellsL (ys ++ xs)) → Below base w w' → wpList Tryd.prog ops Q rest (a.put o.dst v') w') : wpList Tryd.prog ops Q (o :: rest) a w := by
  obtain ⟨i0, hi, hz0, hz1, hz2⟩ := info_parts Tryd.infoRl
  rcases hI with ⟨rfl, rfl⟩ | ⟨ad, cap, rfl, _, _, hc⟩
  · exact wpList_append_own_none hgd s x 35 ho base 55 i0 5 Tryd.underlying35 hi v n (cellsL ys) hs hown hx (h v w (by simpa using hown) ⟨rfl, rfl, rfl, Nat.le_refl _, fun _ _ => rfl⟩)
  · refine wpList_append_own w hgd s x 35 ho base 55 i0 _ 5 32 Tryd.underlying35 hi hz0 hz1 hz2 rfl (by decide) v n (cellsL ys) hs hown ad xs.length cap (cellsL xs) hx (cellsL_len xs) hc.at (cellsL_one xs) (by unfold maxLen; omega) (by omega) hbase ?_
    intro v' w' h1 h2 _
    have hb : Below base w w' := Below.grown ⟨rfl, rfl, rfl, Nat.le_refl _, fun _ _ => rfl⟩ h2 hbase (fun j hj => (hown.lt _ hj).1)
    exact h v' w' (by rw [cellsL_append]; exact h1) hb
theorem refPorts_take {l : List Rl} {j : Nat} {r : Rl} (h : l[j]? = some r) : refPorts (l.take (j + 1)) = refPorts (l.take j) ++ [r.lo - 1, r.lo, r.tp, r.tp + 1] := by
  unfold refPorts
  rw [List.take_add_one, h, List.flatMap_append]
  simp
theorem refPorts_len (l : List Rl) : (refPorts l).length = 2 + 4 * l.length := by
  induction l with
  | nil => rfl
  | cons r l ih =>
    have e : refPorts (r :: l) = [1, 65535] ++ ([r.lo - 1, r.lo, r.tp, r.tp + 1] ++ l.flatMap fun r => [r.lo - 1, r.lo, r.tp, r.tp + 1]) := by simp [refPorts]
    have e2 : (refPorts l).length = 2 + (l.flatMap fun r : Rl => [r.lo - 1, r.lo, r.tp, r.tp + 1]).length := by simp only [refPorts, List.length_append, List.length_cons, List.length_nil]
    rw [e]; simp only [List.length_append, List.length_cons, List.length_nil]; omega
/-- what stands in the first loop's round. -/
structure Lp (w2 W : World) (x o : Nat) (lo tp : Int) (v : Value) (T0 : List Int) : Prop where
  c3 : W.cell? ⟨x, o + 3, none⟩ = some (.int .i64 lo)
  c4 : W.cell? ⟨x, o + 4, none⟩ = some (.int .i64 tp)
  own : W.ownsRow w2.heap.size 3 1 v T0.length (T0.map intVq)
  b : Below w2.heap.size w2 W
theorem Lp.drew {w2 W : World} {x o : Nat} {lo tp : Int} {v : Value} {T0 : List Int} (h : Lp w2 W x o lo tp v T0) : Lp w2 W.drew x o lo tp v T0 := ⟨h.c3, h.c4, h.own, h.b.drew⟩
theorem Lp.alloc {w2 W : World} {x o : Nat} {lo tp : Int} {v : Value} {T0 : List Int} (h : Lp w2 W x o lo tp v T0) (ob : Obj) : Lp w2 (W.alloc ob) x o lo tp v T0 :=
  ⟨Below.keeps ((Below.refl _ _).alloc (Nat.le_refl _) _) h.c3, Below.keeps ((Below.refl _ _).alloc (Nat.le_refl _) _) h.c4, h.own.alloc _, h.b.alloc h.b.size _⟩
theorem Lp.all {w2 W : World} {x o : Nat} {lo tp : Int} {v : Value} {T0 : List Int} (h : Lp w2 W x o lo tp v T0) : W.cell? ⟨x, o + 3, none⟩ = some (.int .i64 lo) ∧ W.cell? ⟨x, o + 4, none⟩ = some (.int .i64 tp) ∧ Lp w2 W x o lo tp v T0 := ⟨h.c3, h.c4, h⟩
theorem hold34 {w2 W : World} {x o : Nat} {lo tp : Int} (h : w2.cell? ⟨x, o + 3, none⟩ = some (.int .i64 lo) ∧ w2.cell? ⟨x, o + 4, none⟩ = some (.int .i64 tp)) (hb : Below w2.heap.size w2 W) :
    W.cell? ⟨x, o + 3, none⟩ = some (.int .i64 lo) ∧ W.cell? ⟨x, o + 4, none⟩ = some (.int .i64 tp) ∧ Below w2.heap.size w2 W := ⟨Below.keeps hb h.1, Below.keeps hb h.2, hb⟩
theorem four_at (W : World) (a b c d : Int) (j : Nat) (u : Value) (hj : [intVq a, intVq b, intVq c, intVq d][j]? = some u) : (W.alloc (.cells #[.int .i64 a, .int .i64 b, .int .i64 c, .int .i64 d] 3)).cell? (Addr.add ⟨W.heap.size, 0, none⟩ j) = some u := by
  rw [addr_add]
  match j, hj with
  | 0, hj => simp at hj; subst hj; simp [go_sem]
  | 1, hj => simp at hj; subst hj; simp [go_sem]
  | 2, hj => simp at hj; subst hj; simp [go_sem]
  | 3, hj => simp at hj; subst hj; simp [go_sem]
theorem four_one (a b c d : Int) (u : Value) (hu : u ∈ [intVq a, intVq b, intVq c, intVq d]) : u.oneCell' = true := by
  simp at hu; rcases hu with rfl | rfl | rfl | rfl <;> rfl
theorem lp_next {w2 W w4 : World} {x o : Nat} {lo tp : Int} {v v' : Value} {T0 T1 : List Int} {ob : Obj} (h : Lp w2 W x o lo tp v T0) (e : T1 = T0 ++ [lo - 1, lo, tp, tp + 1])
    (hown : w4.ownsRow w2.heap.size 3 1 v' (T0.length + 4) (T0.map intVq ++ [intVq (lo - 1), intVq lo, intVq tp, intVq (tp + 1)])) (hg : (W.alloc ob).grownBy w4 v.ownBlock) :
    w4.ownsRow w2.heap.size 3 1 v' T1.length (T1.map intVq) ∧ Below w2.heap.size w2 w4 := by
  subst e
  refine ⟨by simpa using hown, (h.b.alloc h.b.size _).grown hg (by have := h.b.size; simp; omega) (fun j hj => (h.own.lt _ hj).1)⟩
def okP (a b : List Rl) (p : Int) : Bool := decide (p < 1) || (decide (65535 < p) || refAt a b p)
theorem refSame_okP (a b : List Rl) : refSame a b = (refPorts (a ++ b)).all (okP a b) := rfl
theorem refSame_no {a b : List Rl} {y : Int} (hm : y ∈ refPorts (a ++ b)) (h : okP a b y = false) : refSame a b = false := by
  rw [refSame_okP, List.all_eq_false]
  exact ⟨y, hm, by rw [h]; simp⟩
theorem not_at0 {a b : List Rl} {y : Int} (hm : y ∈ refPorts (a ++ b)) (hr : 1 ≤ y ∧ y ≤ 65535) (h : (adm a 1 false y != adm b 1 false y) = true) : refSame a b = false := by
  refine refSame_no hm ?_
  unfold okP
  rw [decide_eq_false (by omega), decide_eq_false (by omega), Bool.false_or, Bool.false_or]
  unfold refAt
  have e : (adm a 1 false y == adm b 1 false y) = false := by simpa [bne] using h
  rw [e]
  simp
theorem not_at1 {a b : List Rl} {y : Int} (hm : y ∈ refPorts (a ++ b)) (hr : 1 ≤ y ∧ y ≤ 65535) (h : (adm a 2 false y != adm b 2 false y) = true) : refSame a b = false := by
  refine refSame_no hm ?_
  unfold okP
  rw [decide_eq_false (by omega), decide_eq_false (by omega), Bool.false_or, Bool.false_or]
  unfold refAt
  have e : (adm a 2 false y == adm b 2 false y) = false := by simpa [bne] using h
  rw [e]
  simp
theorem not_at2 {a b : List Rl} {y : Int} (hm : y ∈ refPorts (a ++ b)) (hr : 1 ≤ y ∧ y ≤ 65535) (h : (adm a 1 true y != adm b 1 true y) = true) : refSame a b = false := by
  refine refSame_no hm ?_
  unfold okP
  rw [decide_eq_false (by omega), decide_eq_false (by omega), Bool.false_or, Bool.false_or]
  unfold refAt
  have e : (adm a 1 true y == adm b 1 true y) = false := by simpa [bne] using h
  rw [e]
  simp
theorem not_at3 {a b : List Rl} {y : Int} (hm : y ∈ refPorts (a ++ b)) (hr : 1 ≤ y ∧ y ≤ 65535) (h : (adm a 2 true y != adm b 2 true y) = true) : refSame a b = false := by
  refine refSame_no hm ?_
  unfold okP
  rw [decide_eq_false (by omega), decide_eq_false (by omega), Bool.false_or, Bool.false_or]
  unfold refAt
  have e : (adm a 2 true y == adm b 2 true y) = false := by simpa [bne] using h
  rw [e]
  simp
theorem all_at {a b : List Rl} {y : Int} (h0 : (adm a 1 false y != adm b 1 false y) = false) (h1 : (adm a 2 false y != adm b 2 false y) = false) (h2 : (adm a 1 true y != adm b 1 true y) = false) (h3 : (adm a 2 true y != adm b 2 true y) = false) : okP a b y = true := by
  unfold okP refAt
  have e0 : (adm a 1 false y == adm b 1 false y) = true := by simpa [bne] using h0
  have e1 : (adm a 2 false y == adm b 2 false y) = true := by simpa [bne] using h1
  have e2 : (adm a 1 true y == adm b 1 true y) = true := by simpa [bne] using h2
  have e3 : (adm a 2 true y == adm b 2 true y) = true := by simpa [bne] using h3
  rw [e0, e1, e2, e3]
  simp
theorem aof_held {w0 wr W : World} {p : Option Addr} {l : List Rl} {cap : Nat} {pr y : Int} {ou : Bool} {g i : Nat} (R : Rul w0 p l) (hl : l.length ≤ 20) (hw : Below w0.heap.size w0 wr) (hc : wr.cell? ⟨g, i, none⟩ = some (.int .i64 y)) (h : Below wr.heap.size wr W) :
    Calls Tryd.prog 22 #[.slice p l.length cap, .int .i64 pr, .int .i64 y, .bool ou] W fun e w' => e = .returned (.bool (adm l pr ou y)) ∧ (w'.cell? ⟨g, i, none⟩ = some (.int .i64 y) ∧ Below wr.heap.size wr w') := by
  refine (aof_any p l cap pr y ou W ((R.below hw).below h) (by omega)).mono ?_
  rintro e w' ⟨rfl, hb⟩
  exact ⟨rfl, Below.keeps (below2 h hb) hc, below2 h hb⟩
set_option maxRecDepth 100000 in
set_option maxHeartbeats 4000000 in
theorem sof_any (va vb : Value) (a b : List Rl) (w : World) (SA : Sl w va a) (SB : Sl w vb b) (la : a.length ≤ 20) (lb : b.length ≤ 20) (ha : ∀ r ∈ a, r.ok) (hb : ∀ r ∈ b, r.ok) :
    Calls Tryd.prog 23 #[va, vb] w fun e w' => e = .returned (.bool (refSame a b)) ∧ Below w.heap.size w w' := by
  have HA : Hid (Sl w va a) := SA
  have HB : Hid (Sl w vb b) := SB
  have KK : Hid (∀ r ∈ a ++ b, r.ok) := fun r hr => by
    rcases List.mem_append.1 hr with h | h
    · exact ha r h
    · exact hb r h
  obtain ⟨pa, ca, hva, hRA⟩ := SA.open
  obtain ⟨pb, cb, hvb, hRB⟩ := SB.open
  have RA : Hid (Rul w pa a) := hRA
  have RB : Hid (Rul w pb b) := hRB
  subst hva hvb
  clear SA SB ha hb hRA hRB
  obtain ⟨i0, hi, hz0, hz1, hz2⟩ := info_parts Tryd.infoI
  go_enter Tryd.func23, Tryd.ntmps23
  go_wp2_with (at_builtin; refine wpList_append_rules rfl _ _ rfl w.heap.size _ 0 [] rfl (World.ownsRow_nil _ _ _ _) _ a rfl HA.out (by omega) (Nat.le_refl _) ?_)
  intro v1 w1 hO1 hb1
  have O1 : Hid (w1.ownsRow w.heap.size 55 5 v1 a.length (cellsL a)) := by
    show w1.ownsRow _ _ _ _ _ _
    simpa using hO1
  have B1 : Hid (Below w.heap.size w w1) := hb1
  clear hO1 hb1
  go_wp2_with (at_builtin; refine wpList_append_rules rfl _ _ rfl w.heap.size v1 a.length a rfl O1.out _ b rfl (HB.out.below B1.out) (by omega) B1.out.size ?_)
  intro v2 w2 hO2 hb2
  have S2 : Hid (Sl w2 v2 (a ++ b)) := (Sl.of_own hO2).1
  have B2 : Hid (Below w.heap.size w w2) := B1.out.trans hb2
  clear hO2 hb2
  obtain ⟨p2, c2, hv2, hR2⟩ := S2.out.open
  have R2 : Hid (Rul w2 p2 (a ++ b)) := hR2
  have hlen : (a ++ b).length ≤ 40 := by rw [List.length_append]; omega
  subst hv2
  clear hR2
  generalize hM : a ++ b = M at *
  have HM : Hid (a ++ b = M) := hM
  clear hM
  go_wp2_with (at_builtin; refine wpList_append_own _ rfl _ _ 22 rfl w2.heap.size 3 i0 (.int .i64 0) 1 8 Tryd.underlying22 hi hz0 hz1 hz2 rfl (by decide) _ 0 [] rfl (World.ownsRow_nil _ _ _ _) ⟨w2.heap.size, 0, none⟩ 2 2 [intVq 1, intVq 65535] rfl rfl ?c1 ?c2 ?c3 ?c4 ?c5 ?_)
  case c1 =>
    intro j u hj
    rw [addr_add]
    match j, hj with
    | 0, hj => simp at hj; subst hj; simp [go_sem]
    | 1, hj => simp at hj; subst hj; simp [go_sem]
  case c2 => intro u hu; simp at hu; rcases hu with rfl | rfl <;> rfl
  case c3 => unfold maxLen; omega
  case c4 => omega
  case c5 => simp
  intro v3 w3 hO3 hg3 _
  have O3 : Hid (w3.ownsRow w2.heap.size 3 1 v3 (refPorts (M.take 0)).length ((refPorts (M.take 0)).map intVq)) := by
    show w3.ownsRow _ _ _ _ _ _
    simpa [refPorts] using hO3
  have B3 : Hid (Below w2.heap.size w2 w3) := ((Below.refl _ _).alloc (Nat.le_refl _) _).grown hg3 (by simp) (fun j hj => by cases hj)
  clear hO3 hg3
  go_wp2_with fail
  go_loopw [5, 7] (fun v t wr => ∃ j : Nat, j ≤ M.length ∧ t = .int .i64 j ∧ wr.ownsRow w2.heap.size 3 1 v (refPorts (M.take j)).length ((refPorts (M.take j)).map intVq) ∧ Below w2.heap.size w2 wr) (fun _ t _ => M.length - (intOf t).toNat)
  case atStart => exact ⟨0, Nat.zero_le _, rfl, O3.out, B3.out⟩
  case round =>
    obtain ⟨j, hj, rfl, hown, hbr⟩ := hrel
    have HO : Hid (wr.ownsRow w2.heap.size 3 1 u5 (refPorts (M.take j)).length ((refPorts (M.take j)).map intVq)) := hown
    have HBR : Hid (Below w2.heap.size w2 wr) := hbr
    clear hown hbr
    by_cases hlt : j < M.length
    · have hr : M[j]? = some M[j] := List.getElem?_eq_getElem hlt
      have hok : M[j].ok := KK.out _ (List.getElem_mem hlt)
      generalize M[j] = r at hr hok
      obtain ⟨x, o, rfl, g0, g1, g2, g3, g4⟩ := R2.out j r hr
      have G34 : Hid (w2.cell? ⟨x, o + j * 5 + 3, none⟩ = some (.int .i64 r.lo) ∧ w2.cell? ⟨x, o + j * 5 + 4, none⟩ = some (.int .i64 r.tp)) := ⟨g3, g4⟩
      have k3 := Below.keeps HBR.out g3
      have k4 := Below.keeps HBR.out g4
      have HD : Hid (refPorts (M.take (j + 1)) = refPorts (M.take j) ++ [r.lo - 1, r.lo, r.tp, r.tp + 1]) := refPorts_take hr
      have hn : (refPorts (M.take j)).length ≤ 2000 := by rw [refPorts_len, List.length_take]; omega
      obtain ⟨_, o1, o2, o3⟩ := hok
      clear g0 g1 g2 g3 g4 hr
      generalize refPorts (M.take j) = T0 at *
      obtain ⟨T1, hT1⟩ : ∃ T, T = refPorts (M.take (j + 1)) := ⟨_, rfl⟩
      rw [← hT1] at HD
      have HT1 : Hid (T1 = refPorts (M.take (j + 1))) := hT1
      clear hT1
      have L0 : Lp w2 wr x (o + j * 5) r.lo r.tp u5 T0 := ⟨k3, k4, HO.out, HBR.out⟩
      have L1 := L0.drew
      have q1 : IntKind.i64.wrap (r.lo - 1) = r.lo - 1 := by rw [IntKind.wrap_i64]; omega
      have q2 : IntKind.i64.wrap (r.tp + 1) = r.tp + 1 := by rw [IntKind.wrap_i64]; omega
      clear HO HBR
      go_wp2_with fail
      go_region_held3 (fun w' => w'.cell? ⟨x, o + j * 5 + 3, none⟩ = some (.int .i64 r.lo) ∧ w'.cell? ⟨x, o + j * 5 + 4, none⟩ = some (.int .i64 r.tp) ∧ Below w2.heap.size w2 w') (first | assumption | exact hold34 G34.out L1.b | exact hold34 G34.out (Lp.alloc L1 _).b | exact hold34 G34.out HG.2)
        (first
          | (refine wp_append_own _ _ _ 22 rfl w2.heap.size 3 i0 (.int .i64 0) 1 8 Tryd.underlying22 hi hz0 hz1 hz2 rfl (by decide) u5 T0.length (T0.map intVq) rfl (Lp.alloc L1 _).own ⟨wr.heap.size, 0, none⟩ 4 4 [intVq (r.lo - 1), intVq r.lo, intVq r.tp, intVq (r.tp + 1)] rfl rfl (four_at wr.drew _ _ _ _) (four_one _ _ _ _) (by unfold maxLen; omega) (by omega) (Lp.alloc L1 _).b.size ?_; intro v' w4 hown' hgrow _; have HG := lp_next L1 HD.out hown' hgrow; clear hown' hgrow))
      have HG2 : Hid (w4.ownsRow w2.heap.size 3 1 v' T1.length (T1.map intVq) ∧ Below w2.heap.size w2 w4) := HG
      have HT : Hid (T1 = refPorts (M.take (j + 1))) := HT1.out
      clear HG L0 L1
      go_wp2_with fail
      go_roundw
      case rel => exact ⟨j + 1, by omega, by go_num, by rw [← HT.out]; exact HG2.out.1, HG2.out.2⟩
      case measure => simp [intOf]; omega
    · obtain rfl : j = M.length := by omega
      rw [List.take_length] at HO
      have HI : Hid (Ints wr u5 (refPorts M)) := Ints.of_own HO.out
      have hx : (refPorts M).length ≤ 1000 := by rw [refPorts_len]; omega
      have BW : Hid (Below w.heap.size w wr) := B2.out.trans (HBR.out.mono B2.out.size)
      obtain ⟨pv, kv, hpv⟩ := HI.out.open
      clear HO
      subst hpv
      go_wp2_with fail
      generalize wr = wo at *
      go_loopw [8] (fun t ws => ∃ i : Nat, i ≤ (refPorts M).length ∧ t = .int .i64 i ∧ ((refPorts M).take i).all (okP a b) = true ∧ Below wo.heap.size wo ws) (fun t _ => (refPorts M).length - (intOf t).toNat)
      case atStart => exact ⟨0, Nat.zero_le _, rfl, rfl, Below.refl _ _⟩
      case round =>
        obtain ⟨i, hi', rfl, hall, hbs⟩ := hrel
        have HALL : Hid (((refPorts M).take i).all (okP a b) = true) := hall
        have BX0 : Hid (Below wo.heap.size wo wr) := hbs
        clear hall hbs
        by_cases hlt : i < (refPorts M).length
        · have hr : (refPorts M)[i]? = some (refPorts M)[i] := List.getElem?_eq_getElem hlt
          obtain ⟨y, hy⟩ : ∃ y, y = (refPorts M)[i] := ⟨_, rfl⟩
          rw [← hy] at hr
          have YM : Hid (y ∈ refPorts (a ++ b)) := by show y ∈ _; rw [HM.out]; exact List.mem_of_getElem? hr
          have YI : Hid ((refPorts M)[i]? = some y) := hr
          clear hy
          obtain ⟨g, hg, hc⟩ : ∃ g, pv = some ⟨g, 0, none⟩ ∧ wo.cell? ⟨g, i, none⟩ = some (.int .i64 y) := by
            rcases HI.out with ⟨_, h0⟩ | ⟨g, cap, h1, h2⟩
            · rw [h0] at hlt; simp at hlt
            · exact ⟨g, (Value.slice.inj h1).1, h2 i y hr⟩
          subst hg
          have YC : Hid (wo.cell? ⟨g, i, none⟩ = some (.int .i64 y)) := hc
          have hc := Below.keeps BX0.out YC.out
          clear hr
          by_cases hy1 : y < 1 ∨ 65535 < y
          · have HT : Hid (((refPorts M).take (i + 1)).all (okP a b) = true) := by
              show _ = _
              rw [List.take_add_one, YI.out, List.all_append, HALL.out]
              simp only [Option.toList_some, List.all_cons, List.all_nil, okP, Bool.and_true, Bool.true_and]
              rcases hy1 with h | h
              · rw [decide_eq_true h]; rfl
              · rw [decide_eq_true h]; simp
            rcases hy1 with h | h
            all_goals
              go_wp2_with fail
              all_goals exact ⟨⟨i + 1, by omega, by go_num, HT.out, BX0.out⟩, by simp [intOf]; omega⟩
          have YR : Hid (1 ≤ y ∧ y ≤ 65535) := by constructor <;> omega
          obtain ⟨y1, y2⟩ := YR.out
          clear hy1
          go_wp2_with fail
          refine wp_loop_rounds 5 ?_
          rw [rounds_succ]
          go_wp2_with fail
          go_region_held3 (fun w' => w'.cell? ⟨g, i, none⟩ = some (.int .i64 y) ∧ Below wo.heap.size wo w') (first | assumption | exact ⟨Below.keeps BX0.out.drew YC.out, BX0.out.drew⟩)
            (first
              | (go_at_call_of 22 (Value.slice pa a.length ca); refine (aof_held RA.out la BW.out YC.out (by first | exact BX0.out.drew | exact And.right (by assumption))).mono ?_; rintro e x0a ⟨rfl, hqa⟩)
              | (go_at_call_of 22 (Value.slice pb b.length cb); refine (aof_held RB.out lb BW.out YC.out (And.right (by assumption))).mono ?_; rintro e x0b ⟨rfl, hqb⟩))
          have BX1 : Hid (Below wo.heap.size wo x0b) := hqb.2
          clear hqa hqb
          rcases he0 : (!(adm a 1 false y == adm b 1 false y)) with _ | _
          rotate_left
          · have HF : Hid (refSame a b = false) := not_at0 YM.out YR.out he0
            clear he0
            go_wp2_with fail
            go_ret
            refine ⟨?_, below2 BW.out BX1.out⟩
            rw [HF.out]
            rfl
          have HE0 : Hid ((adm a 1 false y != adm b 1 false y) = false) := he0
          clear he0
          go_wp2_with fail
          rw [rounds_succ]
          go_wp2_with fail
          go_region_held3 (fun w' => w'.cell? ⟨g, i, none⟩ = some (.int .i64 y) ∧ Below wo.heap.size wo w') (first | assumption | exact ⟨Below.keeps BX1.out.drew YC.out, BX1.out.drew⟩)
            (first
              | (go_at_call_of 22 (Value.slice pa a.length ca); refine (aof_held RA.out la BW.out YC.out (by first | exact BX1.out.drew | exact And.right (by assumption))).mono ?_; rintro e x1a ⟨rfl, hqa⟩)
              | (go_at_call_of 22 (Value.slice pb b.length cb); refine (aof_held RB.out lb BW.out YC.out (And.right (by assumption))).mono ?_; rintro e x1b ⟨rfl, hqb⟩))
          have BX2 : Hid (Below wo.heap.size wo x1b) := hqb.2
          clear hqa hqb
          rcases he1 : (!(adm a 2 false y == adm b 2 false y)) with _ | _
          rotate_left
          · have HF : Hid (refSame a b = false) := not_at1 YM.out YR.out he1
            clear he1
            go_wp2_with fail
            go_ret
            refine ⟨?_, below2 BW.out BX2.out⟩
            rw [HF.out]
            rfl
          have HE1 : Hid ((adm a 2 false y != adm b 2 false y) = false) := he1
          clear he1
          go_wp2_with fail
          rw [rounds_succ]
          go_wp2_with fail
          go_region_held3 (fun w' => w'.cell? ⟨g, i, none⟩ = some (.int .i64 y) ∧ Below wo.heap.size wo w') (first | assumption | exact ⟨Below.keeps BX2.out.drew YC.out, BX2.out.drew⟩)
            (first
              | (go_at_call_of 22 (Value.slice pa a.length ca); refine (aof_held RA.out la BW.out YC.out (by first | exact BX2.out.drew | exact And.right (by assumption))).mono ?_; rintro e x2a ⟨rfl, hqa⟩)
              | (go_at_call_of 22 (Value.slice pb b.length cb); refine (aof_held RB.out lb BW.out YC.out (And.right (by assumption))).mono ?_; rintro e x2b ⟨rfl, hqb⟩))
          have BX3 : Hid (Below wo.heap.size wo x2b) := hqb.2
          clear hqa hqb
          rcases he2 : (!(adm a 1 true y == adm b 1 true y)) with _ | _
          rotate_left
          · have HF : Hid (refSame a b = false) := not_at2 YM.out YR.out he2
            clear he2
            go_wp2_with fail
            go_ret
            refine ⟨?_, below2 BW.out BX3.out⟩
            rw [HF.out]
            rfl
          have HE2 : Hid ((adm a 1 true y != adm b 1 true y) = false) := he2
          clear he2
          go_wp2_with fail
          rw [rounds_succ]
          go_wp2_with fail
          go_region_held3 (fun w' => w'.cell? ⟨g, i, none⟩ = some (.int .i64 y) ∧ Below wo.heap.size wo w') (first | assumption | exact ⟨Below.keeps BX3.out.drew YC.out, BX3.out.drew⟩)
            (first
              | (go_at_call_of 22 (Value.slice pa a.length ca); refine (aof_held RA.out la BW.out YC.out (by first | exact BX3.out.drew | exact And.right (by assumption))).mono ?_; rintro e x3a ⟨rfl, hqa⟩)
              | (go_at_call_of 22 (Value.slice pb b.length cb); refine (aof_held RB.out lb BW.out YC.out (And.right (by assumption))).mono ?_; rintro e x3b ⟨rfl, hqb⟩))
          have BX4 : Hid (Below wo.heap.size wo x3b) := hqb.2
          clear hqa hqb
          rcases he3 : (!(adm a 2 true y == adm b 2 true y)) with _ | _
          rotate_left
          · have HF : Hid (refSame a b = false) := not_at3 YM.out YR.out he3
            clear he3
            go_wp2_with fail
            go_ret
            refine ⟨?_, below2 BW.out BX4.out⟩
            rw [HF.out]
            rfl
          have HE3 : Hid ((adm a 2 true y != adm b 2 true y) = false) := he3
          clear he3
          go_wp2_with fail
          rw [rounds_succ]
          go_wp2_with fail
          have HT : Hid (((refPorts M).take (i + 1)).all (okP a b) = true) := by
            show _ = _
            rw [List.take_add_one, YI.out, List.all_append, HALL.out]
            simp only [Option.toList_some, List.all_cons, List.all_nil, Bool.and_true, Bool.true_and]
            exact all_at HE0.out HE1.out HE2.out HE3.out
          all_goals exact ⟨⟨i + 1, by omega, by go_num, HT.out, BX4.out⟩, by simp [intOf]; omega⟩
        · obtain rfl : i = (refPorts M).length := by omega
          rw [List.take_length] at HALL
          have HF : Hid (refSame a b = true) := by show _ = _; rw [refSame_okP, HM.out]; exact HALL.out
          go_wp2_with fail
          go_ret
          refine ⟨?_, below2 BW.out BX0.out⟩
          rw [HF.out]
          rfl
end Go.Proofs.YtgmdnooknnikfaaDoor
