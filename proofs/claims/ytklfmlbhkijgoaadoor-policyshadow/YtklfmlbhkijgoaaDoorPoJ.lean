/-
  The law PolicyFirst, walked.
-/
import Derived.Test.YtklfmlbhkijgoaaDoorPoH
import Derived.Deep.RegionHeld3
namespace Go.Proofs.YtklfmlbhkijgoaaDoor
open Go.RowKit

/-- a rule that lies boxed. -/
structure Rb (w : World) (b : Nat) (r : Rl) : Prop where
  c0 : w.cell? ⟨b, 0, none⟩ = some (.bool r.al)
  c1 : w.cell? ⟨b, 1, none⟩ = some (.bool r.ou)
  c2 : w.cell? ⟨b, 2, none⟩ = some (.int .i64 r.pr)
  c3 : w.cell? ⟨b, 3, none⟩ = some (.int .i64 r.lo)
  c4 : w.cell? ⟨b, 4, none⟩ = some (.int .i64 r.tp)
theorem Rb.below {w w' : World} {b : Nat} {r : Rl} (h : Rb w b r) (hb : Below w.heap.size w w') : Rb w' b r :=
  ⟨Below.keeps hb h.c0, Below.keeps hb h.c1, Below.keeps hb h.c2, Below.keeps hb h.c3, Below.keeps hb h.c4⟩
/-- a packet that lies boxed. -/
structure Pb (w : World) (b : Nat) (pr a1 p1 a2 p2 fl : Int) : Prop where
  c0 : w.cell? ⟨b, 0, none⟩ = some (.int .i64 pr)
  c1 : w.cell? ⟨b, 1, none⟩ = some (.int .i64 a1)
  c2 : w.cell? ⟨b, 2, none⟩ = some (.int .i64 p1)
  c3 : w.cell? ⟨b, 3, none⟩ = some (.int .i64 a2)
  c4 : w.cell? ⟨b, 4, none⟩ = some (.int .i64 p2)
  c5 : w.cell? ⟨b, 5, none⟩ = some (.int .i64 fl)
theorem Pb.below {w w' : World} {b : Nat} {pr a1 p1 a2 p2 fl : Int} (h : Pb w b pr a1 p1 a2 p2 fl) (hb : Below w.heap.size w w') : Pb w' b pr a1 p1 a2 p2 fl :=
  ⟨Below.keeps hb h.c0, Below.keeps hb h.c1, Below.keeps hb h.c2, Below.keeps hb h.c3, Below.keeps hb h.c4, Below.keeps hb h.c5⟩

/-- what stands all the while: the boxed rule, the boxed packet, and all that lay. -/
structure Fx (w w' : World) (r : Rl) (pr a1 p1 a2 p2 fl : Int) : Prop where
  b : Below w.heap.size w w'
  r : Rb w' w.heap.size r
  k : Pb w' (w.heap.size + 1) pr a1 p1 a2 p2 fl
theorem Fx.below {w w1 w2 : World} {r : Rl} {pr a1 p1 a2 p2 fl : Int} (h : Fx w w1 r pr a1 p1 a2 p2 fl) (hb : Below w1.heap.size w1 w2) : Fx w w2 r pr a1 p1 a2 p2 fl := ⟨below2 h.b hb, h.r.below hb, h.k.below hb⟩
theorem Fx.drew {w w1 : World} {r : Rl} {pr a1 p1 a2 p2 fl : Int} (h : Fx w w1 r pr a1 p1 a2 p2 fl) : Fx w w1.drew r pr a1 p1 a2 p2 fl := h.below (Below.refl _ _).drew
theorem Fx.all {w w' : World} {r : Rl} {pr a1 p1 a2 p2 fl : Int} (h : Fx w w' r pr a1 p1 a2 p2 fl) : w'.cell? ⟨w.heap.size, 0, none⟩ = some (.bool r.al) ∧ w'.cell? ⟨w.heap.size, 1, none⟩ = some (.bool r.ou) ∧ w'.cell? ⟨w.heap.size, 2, none⟩ = some (.int .i64 r.pr) ∧ w'.cell? ⟨w.heap.size, 3, none⟩ = some (.int .i64 r.lo) ∧ w'.cell? ⟨w.heap.size, 4, none⟩ = some (.int .i64 r.tp) ∧ w'.cell? ⟨w.heap.size + 1, 0, none⟩ = some (.int .i64 pr) ∧ w'.cell? ⟨w.heap.size + 1, 1, none⟩ = some (.int .i64 a1) ∧ w'.cell? ⟨w.heap.size + 1, 2, none⟩ = some (.int .i64 p1) ∧ w'.cell? ⟨w.heap.size + 1, 3, none⟩ = some (.int .i64 a2) ∧ w'.cell? ⟨w.heap.size + 1, 4, none⟩ = some (.int .i64 p2) ∧ w'.cell? ⟨w.heap.size + 1, 5, none⟩ = some (.int .i64 fl) ∧ Fx w w' r pr a1 p1 a2 p2 fl :=
  ⟨h.r.c0, h.r.c1, h.r.c2, h.r.c3, h.r.c4, h.k.c0, h.k.c1, h.k.c2, h.k.c3, h.k.c4, h.k.c5, h⟩
theorem own_held {w W : World} {r : Rl} {pr a1 p1 a2 p2 fl : Int} {v : Value} {l : List Rl} (L : Sl w v l) (hl : l.length ≤ 1000) (h : Fx w W r pr a1 p1 a2 p2 fl) :
    Calls Tryd.prog 13 #[v] W fun e w' => ∃ q c, e = .returned (.slice q l.length c) ∧ Rul w' q l ∧ Fx w w' r pr a1 p1 a2 p2 fl := by
  refine (own_any v l W (L.below h.b) hl).mono ?_
  rintro e w' ⟨⟨v', rfl, hv⟩, hb⟩
  obtain ⟨q, c, rfl, hR⟩ := hv.open
  exact ⟨q, c, rfl, hR, h.below hb⟩
theorem admits_held {w W : World} {r : Rl} {pr a1 p1 a2 p2 fl : Int} {p : Option Addr} {l : List Rl} {cap : Nat} {ou : Bool} {s : Nat → Addr} (S : Sen w s) (R : Rul W p l) (hl : l.length ≤ 1000) (h : Fx w W r pr a1 p1 a2 p2 fl) :
    Calls Tryd.prog 12 #[.slice p l.length cap, pkt pr a1 p1 a2 p2 fl, .bool ou] W fun e w' => ∃ v b, e = .returned (.tuple #[.bool b, v]) ∧ AdmV s w' l pr a1 p1 a2 p2 fl ou v b ∧ Fx w w' r pr a1 p1 a2 p2 fl := by
  refine (admits_any p l cap pr a1 p1 a2 p2 fl ou s W (S.below h.b) R hl).mono ?_
  rintro e w' ⟨⟨v, b, rfl, hv⟩, hb⟩
  exact ⟨v, b, rfl, hv, h.below hb⟩

theorem Fx.alloc {w w1 : World} {r : Rl} {pr a1 p1 a2 p2 fl : Int} (h : Fx w w1 r pr a1 p1 a2 p2 fl) (o : Obj) : Fx w (w1.alloc o) r pr a1 p1 a2 p2 fl := h.below ((Below.refl _ _).alloc (Nat.le_refl _) _)
theorem rul_new (w : World) (r : Rl) : Rul (w.alloc (.cells #[.bool r.al, .bool r.ou, .int .i64 r.pr, .int .i64 r.lo, .int .i64 r.tp] 55)) (some ⟨w.heap.size, 0, none⟩) [r] := fun i r' hr => by
  match i, hr with
  | 0, hr =>
    obtain rfl := Option.some.inj hr
    exact ⟨_, _, rfl, by simp, by simp, by simp, by simp, by simp⟩
theorem own_new (w : World) (base : Nat) (hb : base ≤ w.heap.size) (r : Rl) : (w.alloc (.cells #[.bool r.al, .bool r.ou, .int .i64 r.pr, .int .i64 r.lo, .int .i64 r.tp] 55)).ownsRow base 55 5 (.slice (some ⟨w.heap.size, 0, none⟩) 1 1) 1 (rlC r) :=
  ⟨rfl, .inr ⟨w.heap.size, 1, #[.bool r.al, .bool r.ou, .int .i64 r.pr, .int .i64 r.lo, .int .i64 r.tp], rfl, hb, by (show (w.heap.push _)[w.heap.size]? = _); rw [Array.getElem?_push_size], Nat.le_refl _, by decide, rfl, rfl⟩⟩
theorem wp_append_nil {P : Program} {w : World} {o : Oper} {a : Act} {K : Act → World → Prop} {Q : Exit → Act → World → Prop} (s x : Operand) (t : TypeId)
    (ho : o.op = .call { callee := .builtin .append, args := #[s, x], argTypes := #[t, t] })
    (base : Nat) (e : TypeId) (i : TypeInfo) (size : Nat) (ht : P.underlying t = some (.slice e)) (hi : P.info? e = some i)
    (v : Value) (n : Nat) (xs : List Value) (hs : a.eval s = v) (hown : w.ownsRow base e size v n xs) (hx : a.eval x = .slice none 0 0)
    (h : K (a.put o.dst v) w) : o.wp P a w K Q := by
  have hrun := run_append_owned_none (P := P) (w := w) base t o.type e i size ht hi v n xs hown
  unfold Oper.wp
  simp [execOp, ho, resolve, invoke, builtin, hs, hx, hrun, Result.andThen]
  exact h
theorem app_new {w W w6 : World} {r : Rl} {pr a1 p1 a2 p2 fl : Int} {l : List Rl} {v6 : Value} {n : Nat} (h : Fx w W r pr a1 p1 a2 p2 fl)
    (hown : w6.ownsRow w.heap.size 55 5 v6 n (rlC r ++ cellsL l)) (hg : (W.alloc (.cells #[.bool r.al, .bool r.ou, .int .i64 r.pr, .int .i64 r.lo, .int .i64 r.tp] 55)).grownBy w6 (some W.heap.size)) :
    (∃ q c, v6 = .slice q (r :: l).length c ∧ Rul w6 q (r :: l)) ∧ Fx w w6 r pr a1 p1 a2 p2 fl := by
  refine ⟨(Sl.of_own (l := r :: l) hown).1.open, h.below (((Below.refl _ _).alloc (Nat.le_refl _) _).grown hg (by simp) (fun j hj => ?_))⟩
  obtain rfl := Option.some.inj hj
  exact Nat.le_refl _
theorem chk_one {s : Nat → Addr} {w : World} {r : Rl} {v : Value} (h : ChkV s w [r] v) : (r.ok ∧ v = .nilIface) ∨ (¬ r.ok ∧ ∃ g : Nat, v = .iface 29 (.pointer (some ⟨g, 0, none⟩))) := by
  rcases h with ⟨h1, _⟩ | ⟨_, h2, h3⟩ | ⟨_, i, g, h2, h3, _⟩
  · simp at h1
  · exact .inl ⟨chkAt_none.1 h2 r (by simp), h3⟩
  · refine .inr ⟨fun ho => ?_, g, h3⟩
    have : chkAt [r] 0 = none := chkAt_none.2 (by simpa using ho)
    rw [this] at h2; cases h2

set_option maxRecDepth 100000 in
set_option maxHeartbeats 4000000 in
theorem first_any (v0 : Value) (l : List Rl) (r : Rl) (pr a1 p1 a2 p2 fl : Int) (ou : Bool) (s : Nat → Addr) (w : World) (E : EnvQ w s) (L : Sl w v0 l) :
    Calls Tryd.prog 6 #[v0, .agg #[.bool r.al, .bool r.ou, .int .i64 r.pr, .int .i64 r.lo, .int .i64 r.tp], pkt pr a1 p1 a2 p2 fl, .bool ou] w fun e w' => e = .returned (.bool true) ∧ Below w.heap.size w w' := by
  have HE : Hid (EnvQ w s) := E
  have HL : Hid (Sl w v0 l) := L
  obtain ⟨p, cap, hv0, _⟩ := L.open
  subst hv0
  clear E L
  have F0 : Hid (Fx w ((w.alloc (.cells #[.bool r.al, .bool r.ou, .int .i64 r.pr, .int .i64 r.lo, .int .i64 r.tp] 55)).alloc (.cells #[.int .i64 pr, .int .i64 a1, .int .i64 p1, .int .i64 a2, .int .i64 p2, .int .i64 fl] 39)) r pr a1 p1 a2 p2 fl) :=
    ⟨((Below.refl _ _).alloc (Nat.le_refl _) _).alloc (by simp) _, ⟨by simp [go_sem], by simp [go_sem], by simp [go_sem], by simp [go_sem], by simp [go_sem]⟩, ⟨by simp [go_sem], by simp [go_sem], by simp [go_sem], by simp [go_sem], by simp [go_sem], by simp [go_sem]⟩⟩
  go_enter Tryd.func6, Tryd.ntmps6
  go_wp2_with fail
  refine (ruled_any s _ (HE.out.below F0.out.b)).mono ?_
  rintro e w1 ⟨rfl, hb1⟩
  have F1 : Hid (Fx w w1 r pr a1 p1 a2 p2 fl) := F0.out.below hb1
  clear hb1
  by_cases hbig : 20 ≤ l.length
  · go_wp2_with fail
    go_ret
    exact ⟨rfl, F1.out.b⟩
  have hsm : l.length < 20 := by omega
  clear hbig
  have c0 := F1.out.k.c0
  have c1 := F1.out.k.c1
  have c2 := F1.out.k.c2
  have c3 := F1.out.k.c3
  have c4 := F1.out.k.c4
  have c5 := F1.out.k.c5
  go_wp2_with fail
  refine (perr_any pr a1 p1 a2 p2 fl _).mono ?_
  rintro e w2 ⟨rfl, hb2⟩
  have F2 : Hid (Fx w w2 r pr a1 p1 a2 p2 fl) := F1.out.below hb2
  clear hb2 c0 c1 c2 c3 c4 c5
  rcases hk : pkErr pr a1 p1 a2 p2 fl with _ | k
  · have HZ : Hid (pkErr pr a1 p1 a2 p2 fl = 0) := hk
    clear hk
    go_wp2_with fail
    have D2 := F2.out.drew
    have A2 := Fx.all D2
    go_region_held3 (fun w' => w'.cell? ⟨w.heap.size, 0, none⟩ = some (.bool r.al) ∧ w'.cell? ⟨w.heap.size, 1, none⟩ = some (.bool r.ou) ∧ w'.cell? ⟨w.heap.size, 2, none⟩ = some (.int .i64 r.pr) ∧ w'.cell? ⟨w.heap.size, 3, none⟩ = some (.int .i64 r.lo) ∧ w'.cell? ⟨w.heap.size, 4, none⟩ = some (.int .i64 r.tp) ∧ w'.cell? ⟨w.heap.size + 1, 0, none⟩ = some (.int .i64 pr) ∧ w'.cell? ⟨w.heap.size + 1, 1, none⟩ = some (.int .i64 a1) ∧ w'.cell? ⟨w.heap.size + 1, 2, none⟩ = some (.int .i64 p1) ∧ w'.cell? ⟨w.heap.size + 1, 3, none⟩ = some (.int .i64 a2) ∧ w'.cell? ⟨w.heap.size + 1, 4, none⟩ = some (.int .i64 p2) ∧ w'.cell? ⟨w.heap.size + 1, 5, none⟩ = some (.int .i64 fl) ∧ Fx w w' r pr a1 p1 a2 p2 fl) (first | assumption | exact Fx.all (by assumption))
      (first
        | (go_at_call 13; refine (own_held HL.out (by omega) (by assumption)).mono ?_; rintro e w3 ⟨q, c, rfl, hR3, hF3⟩; have R3 : Hid (Rul w3 q l) := hR3; clear hR3)
        | (go_at_call 12; refine (admits_held HE.out.s R3.out (by omega) (by assumption)).mono ?_; rintro e w4 ⟨v4, b4, rfl, hV4, hF4⟩; have V4 : Hid (AdmV s w4 l pr a1 p1 a2 p2 fl ou v4 b4) := hV4; clear hV4))
    clear D2 A2
    rcases V4.out with ⟨h1, hC, rfl⟩ | ⟨_, ⟨k, h1, _⟩, _⟩ | ⟨hok, _, rfl, rfl⟩
    · rcases hC with ⟨h2, _⟩ | ⟨h2, h3, _⟩ | ⟨_, i, g, _, rfl, _⟩
      · omega
      · exact absurd ⟨h2, h3⟩ h1
      · have F4 : Hid (Fx w w4 r pr a1 p1 a2 p2 fl) := hF4
        clear hF4 V4 h1
        all_goals go_wp2_with fail
        go_ret
        exact ⟨rfl, F4.out.b⟩
    · rw [HZ.out] at h1; cases h1
    · have F4 : Hid (Fx w w4 r pr a1 p1 a2 p2 fl) := hF4
      have HK : Hid (RulesOk l) := hok
      clear hF4 V4 hok
      have r0 := F4.out.r.c0
      have r1 := F4.out.r.c1
      have r2 := F4.out.r.c2
      have r3 := F4.out.r.c3
      have r4 := F4.out.r.c4
      go_wp2_with fail
      refine (pcheck_any (some ⟨w4.heap.size, 0, none⟩) [r] 1 s _ (HE.out.s.below (F4.out.alloc _).b) (rul_new w4 r) (by simp)).mono ?_
      rintro e w5 ⟨⟨v5, rfl, hv5⟩, hb5⟩
      have F5 : Hid (Fx w w5 r pr a1 p1 a2 p2 fl) := (F4.out.alloc _).below hb5
      clear hb5 r0 r1 r2 r3 r4
      rcases chk_one hv5 with ⟨hrok, rfl⟩ | ⟨hrno, g, rfl⟩
      · have HK2 : Hid (RulesOk (r :: l)) := ⟨by simp only [List.length_cons]; omega, chkAt_none.2 (fun x hx => by
          rcases List.mem_cons.1 hx with rfl | hx
          · exact hrok
          · exact chkAt_none.1 HK.out.2 x hx)⟩
        clear hrok hv5
        go_wp2_with fail
        obtain ⟨i0, hi, hz0, hz1, hz2⟩ := info_parts Tryd.infoRl
        rcases HL.out with ⟨hnil, rfl⟩ | ⟨a, cap', hsl, _, _, hRl⟩
        · obtain ⟨rfl, _, rfl⟩ := Value.slice.inj hnil
          have D5 := F5.out.drew
          go_region_held3 (fun w' => w'.cell? ⟨w.heap.size, 0, none⟩ = some (.bool r.al) ∧ w'.cell? ⟨w.heap.size, 1, none⟩ = some (.bool r.ou) ∧ w'.cell? ⟨w.heap.size, 2, none⟩ = some (.int .i64 r.pr) ∧ w'.cell? ⟨w.heap.size, 3, none⟩ = some (.int .i64 r.lo) ∧ w'.cell? ⟨w.heap.size, 4, none⟩ = some (.int .i64 r.tp) ∧ w'.cell? ⟨w.heap.size + 1, 0, none⟩ = some (.int .i64 pr) ∧ w'.cell? ⟨w.heap.size + 1, 1, none⟩ = some (.int .i64 a1) ∧ w'.cell? ⟨w.heap.size + 1, 2, none⟩ = some (.int .i64 p1) ∧ w'.cell? ⟨w.heap.size + 1, 3, none⟩ = some (.int .i64 a2) ∧ w'.cell? ⟨w.heap.size + 1, 4, none⟩ = some (.int .i64 p2) ∧ w'.cell? ⟨w.heap.size + 1, 5, none⟩ = some (.int .i64 fl) ∧ Fx w w' r pr a1 p1 a2 p2 fl) (first | assumption | exact Fx.all (by assumption) | exact Fx.all (Fx.alloc (by assumption) _))
            (first
              | (refine wp_append_nil _ _ 35 rfl w.heap.size 55 i0 5 Tryd.underlying35 hi _ 1 (rlC r) rfl (own_new _ _ (by exact D5.b.size) r) rfl ?_; have R6 := (show Hid (Rul _ _ [r]) from rul_new w5.drew r); have hF6 := Fx.alloc D5 (.cells #[.bool r.al, .bool r.ou, .int .i64 r.pr, .int .i64 r.lo, .int .i64 r.tp] 55))
              | (go_at_call 12; refine (admits_held (l := [r]) HE.out.s R6.out (by simp) (by assumption)).mono ?_; rintro e w7 ⟨v7, b7, rfl, hV7, hF7⟩; have V7 : Hid (AdmV s w7 [r] pr a1 p1 a2 p2 fl ou v7 b7) := hV7; clear hV7))
          clear D5
          all_goals
            rcases V7.out with ⟨h1, _⟩ | ⟨_, ⟨k, h1, _⟩, _⟩ | ⟨_, _, rfl, rfl⟩
            · exact absurd HK2.out h1
            · rw [HZ.out] at h1; cases h1
            · have F7 : Hid (Fx w w7 r pr a1 p1 a2 p2 fl) := hF7
              clear hF7 V7
              have r0 := F7.out.r.c0
              have r1 := F7.out.r.c1
              have r2 := F7.out.r.c2
              have r3 := F7.out.r.c3
              have r4 := F7.out.r.c4
              have k0 := F7.out.k.c0
              have k4 := F7.out.k.c4
              have HA : Hid (adm [r] pr ou p2 = if r.has pr ou p2 = true then r.al else adm [] pr ou p2) := rfl
              generalize adm [r] pr ou p2 = x7 at HA
              generalize adm [] pr ou p2 = x4 at HA
              go_wp2_with fail
              all_goals first
                | (obtain rfl : x7 = r.al := by
                     rw [HA.out, if_pos (has_iff.2 ⟨by assumption, by first | omega | (rename_i h; simp only [beq_iff_eq] at h; omega), by omega, by omega⟩)]
                   go_ret
                   exact ⟨congrArg Ending.returned (congrArg Value.bool (beq_self_eq_true _)), F7.out.b⟩)
                | (obtain rfl : x7 = x4 := by
                     rw [HA.out, if_neg]
                     rw [has_iff]
                     rintro ⟨a1, a2, a3, a4⟩
                     first | omega | exact absurd a1 (by assumption) | (rename_i h; simp only [beq_eq_false_iff_ne, ne_eq] at h; omega)
                   go_ret
                   exact ⟨congrArg Ending.returned (congrArg Value.bool (beq_self_eq_true _)), F7.out.b⟩)
        · obtain ⟨rfl, _, rfl⟩ := Value.slice.inj hsl
          have D5 := F5.out.drew
          have N5 : Hid (∀ j u, (cellsL l)[j]? = some u → (w5.drew.alloc (.cells #[.bool r.al, .bool r.ou, .int .i64 r.pr, .int .i64 r.lo, .int .i64 r.tp] 55)).cell? (a.add j) = some u) := (hRl.below (Fx.alloc D5 _).b).at
          clear hRl hsl
          go_region_held3 (fun w' => w'.cell? ⟨w.heap.size, 0, none⟩ = some (.bool r.al) ∧ w'.cell? ⟨w.heap.size, 1, none⟩ = some (.bool r.ou) ∧ w'.cell? ⟨w.heap.size, 2, none⟩ = some (.int .i64 r.pr) ∧ w'.cell? ⟨w.heap.size, 3, none⟩ = some (.int .i64 r.lo) ∧ w'.cell? ⟨w.heap.size, 4, none⟩ = some (.int .i64 r.tp) ∧ w'.cell? ⟨w.heap.size + 1, 0, none⟩ = some (.int .i64 pr) ∧ w'.cell? ⟨w.heap.size + 1, 1, none⟩ = some (.int .i64 a1) ∧ w'.cell? ⟨w.heap.size + 1, 2, none⟩ = some (.int .i64 p1) ∧ w'.cell? ⟨w.heap.size + 1, 3, none⟩ = some (.int .i64 a2) ∧ w'.cell? ⟨w.heap.size + 1, 4, none⟩ = some (.int .i64 p2) ∧ w'.cell? ⟨w.heap.size + 1, 5, none⟩ = some (.int .i64 fl) ∧ Fx w w' r pr a1 p1 a2 p2 fl) (first | assumption | exact Fx.all (by assumption) | exact Fx.all (Fx.alloc (by assumption) _))
            (first
              | (refine wp_append_own _ _ _ 35 rfl w.heap.size 55 i0 _ 5 32 Tryd.underlying35 hi hz0 hz1 hz2 rfl (by decide) _ 1 (rlC r) rfl (own_new _ _ (by exact D5.b.size) r) a l.length cap (cellsL l) rfl (cellsL_len l) (N5.out) (cellsL_one l) (by unfold maxLen; omega) (by omega) (by exact (Fx.alloc D5 _).b.size) ?_; intro v6 w6 hown hgrow _; obtain ⟨⟨q6, c6, rfl, hR6⟩, hF6⟩ := app_new (l := l) D5 hown hgrow; have R6 : Hid (Rul w6 q6 (r :: l)) := hR6; clear hown hgrow hR6)
              | (go_at_call 12; refine (admits_held (l := r :: l) HE.out.s R6.out (by simp only [List.length_cons]; omega) (by assumption)).mono ?_; rintro e w7 ⟨v7, b7, rfl, hV7, hF7⟩; have V7 : Hid (AdmV s w7 (r :: l) pr a1 p1 a2 p2 fl ou v7 b7) := hV7; clear hV7))
          clear D5
          all_goals
            rcases V7.out with ⟨h1, _⟩ | ⟨_, ⟨k, h1, _⟩, _⟩ | ⟨_, _, rfl, rfl⟩
            · exact absurd HK2.out h1
            · rw [HZ.out] at h1; cases h1
            · have F7 : Hid (Fx w w7 r pr a1 p1 a2 p2 fl) := hF7
              clear hF7 V7
              have r0 := F7.out.r.c0
              have r1 := F7.out.r.c1
              have r2 := F7.out.r.c2
              have r3 := F7.out.r.c3
              have r4 := F7.out.r.c4
              have k0 := F7.out.k.c0
              have k4 := F7.out.k.c4
              have HA : Hid (adm (r :: l) pr ou p2 = if r.has pr ou p2 = true then r.al else adm l pr ou p2) := rfl
              generalize adm (r :: l) pr ou p2 = x7 at HA
              generalize adm l pr ou p2 = x4 at HA
              go_wp2_with fail
              all_goals first
                | (obtain rfl : x7 = r.al := by
                     rw [HA.out, if_pos (has_iff.2 ⟨by assumption, by first | omega | (rename_i h; simp only [beq_iff_eq] at h; omega), by omega, by omega⟩)]
                   go_ret
                   exact ⟨congrArg Ending.returned (congrArg Value.bool (beq_self_eq_true _)), F7.out.b⟩)
                | (obtain rfl : x7 = x4 := by
                     rw [HA.out, if_neg]
                     rw [has_iff]
                     rintro ⟨a1, a2, a3, a4⟩
                     first | omega | exact absurd a1 (by assumption) | (rename_i h; simp only [beq_eq_false_iff_ne, ne_eq] at h; omega)
                   go_ret
                   exact ⟨congrArg Ending.returned (congrArg Value.bool (beq_self_eq_true _)), F7.out.b⟩)
      · clear hv5
        have r0 := F5.out.r.c0
        have r1 := F5.out.r.c1
        have r2 := F5.out.r.c2
        have r3 := F5.out.r.c3
        have r4 := F5.out.r.c4
        have HN : Hid (¬ r.ok) := hrno
        clear hrno
        go_wp2_with fail
        refine (pcheck_any (some ⟨w5.heap.size, 0, none⟩) [r] 1 s _ (HE.out.s.below (F5.out.alloc _).b) (rul_new w5 r) (by simp)).mono ?_
        rintro e w6 ⟨⟨v6, rfl, hv6⟩, hb6⟩
        have F6 : Hid (Fx w w6 r pr a1 p1 a2 p2 fl) := (F5.out.alloc _).below hb6
        clear hb6 r0 r1 r2 r3 r4
        rcases chk_one hv6 with ⟨hrok, rfl⟩ | ⟨_, g, rfl⟩
        · exact absurd hrok HN.out
        · clear hv6
          go_wp2_with fail
          go_ret
          exact ⟨rfl, F6.out.b⟩
  · have HZ : Hid (pkErr pr a1 p1 a2 p2 fl = k + 1) := hk
    clear hk
    go_wp2_with fail
    all_goals go_ret
    all_goals exact ⟨rfl, F2.out.b⟩
end Go.Proofs.YtklfmlbhkijgoaaDoor
