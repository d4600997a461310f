/-
  The law CellCuts: wherever power is cut, however often: what is opened again is what was there, or what was put.
-/
import Derived.Test.YtdkfjjamfefcaabDoorCeK
import Derived.Test.YtdkfjjamfefcaabDoorCeV
import Derived.Test.YtdkfjjamfefcaabDoorCod2
namespace Go.Proofs.YtdkfjjamfefcaabDoor
open Go.RowKit

theorem PtAt.chg2 {w w' : World} {b o m g : Nat} {a : Pt} (h : PtAt w b o a) (hb : Chg2 m g w w') (h1 : b ≠ m) (h2 : b ≠ g) : PtAt w' b o a := ⟨hb.keeps h1 h2 h.c0, hb.keeps h1 h2 h.c1, hb.keeps h1 h2 h.c2, hb.keeps h1 h2 h.c3, hb.keeps h1 h2 h.c4⟩
theorem isEp_iff {n : Int} : isEp n = true ↔ 0 ≤ n ∧ n ≤ 1073741824 := by unfold isEp; simp
/-- what a put with power does. -/
theorem putE_cases {s : By} (hB : s.B.length = 64) (ep li : Int) :
    (∃ s', putE false s ep li = (0, s', false) ∧ s'.on = true ∧ newest s'.B = ⟨(newest s.B).n + 1, ep.toNat, li.toNat⟩ ∧ ((newest s.B).e : Int) ≤ ep ∧ ((newest s.B).l : Int) ≤ li ∧ 0 ≤ ep ∧ 0 ≤ li) ∨
    (∃ k, putE false s ep li = (k + 1, s, false) ∧ k + 1 ≤ 11) ∨ (∃ s', putE false s ep li = (7, s', true) ∧ s'.on = false ∧ newest s'.B = newest s.B) := by
  unfold putE
  rw [if_neg (by simp)]
  by_cases h1 : badEp ep li = true
  · rw [if_pos h1]
    exact .inr (.inl ⟨1, rfl, by omega⟩)
  · rw [if_neg h1]
    have hb : (0 ≤ ep ∧ ep ≤ 1073741824) ∧ (0 ≤ li ∧ li ≤ 1073741824) := by
      unfold badEp at h1
      rw [← isEp_iff, ← isEp_iff]
      simpa using h1
    by_cases h2 : oldEp s ep li = true
    · rw [if_pos h2]
      exact .inr (.inl ⟨9, rfl, by omega⟩)
    · rw [if_neg h2]
      have hl := newest_lt s.B
      by_cases h3 : (newest s.B).n = 4294967295
      · rw [if_pos h3]
        exact .inr (.inl ⟨5, rfl, by omega⟩)
      · rw [if_neg h3]
        have ho2 : ((newest s.B).e : Int) ≤ ep ∧ ((newest s.B).l : Int) ≤ li := by
          unfold oldEp at h2
          simpa using h2
        have hp := put_pair hB (x := nextNm s ep li) rfl (by show (newest s.B).n + 1 < _; omega) (by show ep.toNat < _; omega) (by show li.toNat < _; omega)
        cases hq : (putS s (nextNm s ep li)).2
        · exact .inr (.inr ⟨_, rfl, (hp.2 hq).2, (hp.2 hq).1⟩)
        · exact .inl ⟨_, rfl, (hp.1 hq).2, (hp.1 hq).1, ho2.1, ho2.2, hb.1.1, hb.2.1⟩
theorem setCut_B (s : By) (n : Int) : (s.setCut n).B = s.B ∧ (s.setCut n).on = s.on := by
  unfold By.setCut
  split <;> exact ⟨rfl, rfl⟩
theorem cutE_on {s : By} (h : s.on = true) {n : Int} (hn : 0 ≤ n) : cutE s n = 0 := by
  unfold cutE
  rw [if_neg (by omega), h]
  rfl
set_option maxRecDepth 100000 in
set_option maxHeartbeats 8000000 in
theorem cuts_any (v : Value) (l : List Pt) (se : Nat → Addr) (w : World) (E : Sents w se) (L : PutsIn w v l) :
    Calls Tryd.prog 9 #[v] w fun e w' => e = .returned (.bool true) ∧ Below w.heap.size w w' := by
  obtain ⟨p, cap, rfl, hat⟩ := L
  have HE : Hid (Sents w se) := E
  have HAT : Hid (∀ (i : Nat) a, l[i]? = some a → ∃ b o, p = some ⟨b, o, none⟩ ∧ PtAt w b (o + i * 5) a ∧ a.cu ≤ 9223372036854775807) := hat
  clear E hat
  by_cases hlen : l.length ≤ 60
  · have hl60 : ¬ (60 : Int) < (l.length : Int) := by omega
    go_enter Tryd.func9, Tryd.ntmps9
    go_wp2_with fail
    refine (kept_any se w HE.out).mono ?_
    rintro e w0 ⟨rfl, hb0⟩
    have B0 : Hid (Below w.heap.size w w0) := hb0
    clear hb0
    go_wp2_with fail
    refine (start_cl w _ B0.out).mono ?_
    rintro e w1 ⟨b, rfl, hy, hb, hbl⟩
    have Y1 : Hid (Byt w1 b new0) := hy
    have H1 : Hid (w.heap.size ≤ b ∧ Below w.heap.size w w1) := ⟨hb, hbl⟩
    clear hy hb hbl
    go_wp2_with fail
    refine (first_cl Y1.out H1.out.1 H1.out.2 rfl (by decide)).mono ?_
    rintro e w2 ⟨c0, rfl, hc⟩
    have C2 : Hid (Cl w w2 b c0 new0 false) := hc
    clear hc Y1 H1 B0
    go_wp2_with fail
    go_loopw [5, 7, 8, 9] (fun s5 s7 s8 s9 wr => ∃ (i c : Nat) (s : By), i ≤ l.length ∧ s9 = .int .i64 i ∧ s5 = .pointer (some ⟨c, 0, none⟩) ∧ s7 = .int .i64 (newest s.B).e ∧ s8 = .int .i64 (newest s.B).l ∧ s.on = true ∧ Cl w wr b c s false) (fun _ _ _ t _ => l.length - (intOf t).toNat)
    case atStart => exact ⟨0, c0, new0, by omega, rfl, rfl, by rw [new0_newest]; rfl, by rw [new0_newest]; rfl, rfl, C2.out⟩
    case round =>
      obtain ⟨i, c, s, hi, rfl, rfl, rfl, rfl, hon, hcl⟩ := hrel
      have CR : Hid (Cl w wr b c s false) := hcl
      have ON : Hid (s.on = true) := hon
      clear hcl hon
      by_cases hlt : i < l.length
      · obtain ⟨A, o, hp, hpt, hcu⟩ := HAT.out i l[i] (List.getElem?_eq_getElem hlt)
        generalize l[i] = a at *
        subst hp
        have PT := hpt.below CR.out.bl
        have a0 := PT.c0
        have a1 := PT.c1
        have a2 := PT.c2
        have a3 := PT.c3
        have a4 := PT.c4
        have HCU : Hid (a.cu ≤ 9223372036854775807) := hcu
        clear hpt hcu PT
        have i0 : (0 : Int) ≤ (i : Int) := by omega
        have i1 : (i : Int) < (l.length : Int) := by omega
        obtain ⟨y, hy⟩ : ∃ y, newest s.B = y := ⟨_, rfl⟩
        have HY : Hid (newest s.B = y) := hy
        rw [hy]
        clear hy
        go_upto_region 16 with fail
        have P1 : Hid (PtAt (wr.alloc (.cells #[.int .i64 a.ep, .int .i64 a.li, .int .i64 a.cu, .bool a.bo, .bool a.of'] 95)) wr.heap.size 0 a) := ptAt_new wr a _
        have C1 : Hid (Cl w (wr.alloc (.cells #[.int .i64 a.ep, .int .i64 a.li, .int .i64 a.cu, .bool a.bo, .bool a.of'] 95)) b c s false) := CR.out.below (aB _ _)
        have hqb : wr.heap.size ≠ b := by have := CR.out.y.lt; omega
        have hqc : wr.heap.size ≠ c := by have := CR.out.e.lt; omega
        have hqw : w.heap.size ≤ wr.heap.size := CR.out.bl.size
        generalize wr.alloc (.cells #[.int .i64 a.ep, .int .i64 a.li, .int .i64 a.cu, .bool a.bo, .bool a.of'] 95) = w3 at *
        generalize wr.heap.size = Q at *
        clear a0 a1 a2 a3 a4 CR
        go_cut [58] (fun t wx => t = .bool false ∧ ∃ s1 : By, s1.B = s.B ∧ s1.on = true ∧ Cl w wx b c s1 false ∧ PtAt wx Q 0 a)
        case first =>
          have q2 := P1.out.c2
          by_cases hcu : 0 ≤ a.cu
          · go_wp2_with fail
            refine (cut_cl C1.out a.cu HCU.out se HE.out).mono ?_
            rintro e w4 ⟨rfl, hc4, hx4⟩
            have C4 : Hid (Cl w w4 b c (s.setCut a.cu) false) := hc4
            have P4 : Hid (PtAt w4 Q 0 a) := P1.out.chg2 hx4 hqb hqc
            have HB4 : Hid ((s.setCut a.cu).B = s.B ∧ (s.setCut a.cu).on = true) := by
              show _ ∧ _
              rw [(setCut_B s a.cu).2]; exact ⟨(setCut_B s a.cu).1, ON.out⟩
            clear hc4 hx4 q2
            rw [cutE_on ON.out hcu]
            simp only [terr]
            go_wp2_with fail
            go_meet
            case rel => exact ⟨rfl, _, HB4.out.1, HB4.out.2, C4.out, P4.out⟩
          · have hd : decide (0 ≤ a.cu) = false := decide_eq_false hcu
            go_wp2_with fail
            go_meet
            case rel => exact ⟨rfl, s, rfl, ON.out, C1.out, P1.out⟩
        case rest =>
          obtain ⟨rfl, s1, hB1, hon1, hc1, hp1⟩ := hcut
          have C4 : Hid (Cl w wc b c s1 false) := hc1
          have P4 : Hid (PtAt wc Q 0 a) := hp1
          have Y4 : Hid (newest s1.B = y) := by show _ = _; rw [hB1]; exact HY.out
          have O4 : Hid (s1.on = true) := hon1
          clear hB1 hon1 hc1 hp1 C1 P1
          have q0 := P4.out.c0
          have q1 := P4.out.c1
          go_wp2_with fail
          refine (put_cl C4.out a.ep a.li se HE.out).mono ?_
          rintro e w5 ⟨rfl, hc5, hx5⟩
          have P5 : Hid (PtAt w5 Q 0 a) := P4.out.chg2 hx5 hqb hqc
          clear hx5 q0 q1
          have q0 := P5.out.c0
          have q1 := P5.out.c1
          rcases putE_cases C4.out.y.2 a.ep a.li with ⟨s', hR, hon', hn', h1, h2, h3, h4⟩ | ⟨k, hR, hk⟩ | ⟨s', hR, hon', hn'⟩
          · rw [hR] at hc5
            rw [hR]
            have C5 : Hid (Cl w w5 b c s' false) := hc5
            rw [Y4.out] at h1 h2
            have N5 : Hid ((((newest s'.B).e : Nat) : Int) = a.ep ∧ (((newest s'.B).l : Nat) : Int) = a.li ∧ s'.on = true) := by
              rw [hn']
              exact ⟨Int.toNat_of_nonneg h3, Int.toNat_of_nonneg h4, hon'⟩
            have g1 : ¬ a.ep < (y.e : Int) := by omega
            have g2 : ¬ a.li < (y.l : Int) := by omega
            clear hc5 hR hon' hn' h1 h2 h3 h4 C4 P4
            simp only [terr]
            go_wp2_with fail
            refine ⟨⟨i + 1, c, s', by omega, by go_num, rfl, by rw [N5.out.1], by rw [N5.out.2.1], N5.out.2.2, C5.out⟩, by simp [intOf]; omega⟩
          · rw [hR] at hc5
            rw [hR]
            have C5 : Hid (Cl w w5 b c s1 false) := hc5
            clear hc5 hR C4 P4 hk
            simp only [terr]
            go_wp2_with fail
            refine (power_any b s1 w5 C5.out.y).mono ?_
            rintro e w6 ⟨rfl, hw6⟩
            obtain rfl := hw6.symm
            rw [O4.out]
            go_wp2_with fail
            refine ⟨⟨i + 1, c, s1, by omega, by go_num, rfl, by rw [Y4.out], by rw [Y4.out], O4.out, C5.out⟩, by simp [intOf]; omega⟩
          · rw [hR] at hc5
            rw [hR]
            have C5 : Hid (Cl w w5 b c s' true) := hc5
            have N5 : Hid (newest s'.B = y) := by show _ = _; rw [hn']; exact Y4.out
            have O5 : Hid (s'.on = false) := hon'
            clear hc5 hR hon' hn' C4 P4
            simp only [terr]
            go_wp2_with fail
            refine (power_any b s' w5 C5.out.y).mono ?_
            rintro e w6 ⟨rfl, hw6⟩
            obtain rfl := hw6.symm
            rw [O5.out]
            go_wp2_with fail
            refine (on_cl C5.out).mono ?_
            rintro e w6 ⟨rfl, hc6, hx6⟩
            have P6 : Hid (PtAt w6 Q 0 a) := P5.out.chg2 hx6 hqb hqc
            have C6 : Hid (Cl w w6 b c s'.turnOn true) := hc6
            clear hc6 hx6 q0 q1 P5 C5
            go_wp2_with fail
            refine (open_cl C6.out rfl).mono ?_
            rintro e w7 ⟨c', rfl, hc7, _, hb7⟩
            have P7 : Hid (PtAt w7 Q 0 a) := P6.out.below hb7
            have C7 : Hid (Cl w w7 b c' s'.turnOn false) := hc7
            have N7 : Hid (newest s'.turnOn.B = y) := N5.out
            have O7 : Hid (s'.turnOn.on = true) := rfl
            generalize s'.turnOn = s7 at *
            clear hc7 hb7 P6 C6 N5 O5
            go_wp2_with fail
            refine (coded2_any 7 (by omega) 7 se w7 (HE.out.below C7.out.bl)).mono ?_
            rintro e w8 ⟨rfl, hb8⟩
            have P8 : Hid (PtAt w8 Q 0 a) := P7.out.below hb8
            have C8 : Hid (Cl w w8 b c' s7 false) := C7.out.below hb8
            have h77 : ((7 : Int) == ((7 : Nat) : Int)) = true := by decide
            rw [h77]
            clear hb8 P7 C7 h77
            go_wp2_with fail
            refine (epoch_any c' b false s7 w8 C8.out.e C8.out.y).mono ?_
            rintro e w9 ⟨rfl, hb9⟩
            have P9 : Hid (PtAt w9 Q 0 a) := P8.out.below hb9
            have C9 : Hid (Cl w w9 b c' s7 false) := C8.out.below hb9
            rw [N7.out]
            clear hb9 P8 C8
            go_wp2_with fail
            refine (life_any c' b false s7 w9 C9.out.e C9.out.y).mono ?_
            rintro e x0 ⟨rfl, hb9⟩
            have P10 : Hid (PtAt x0 Q 0 a) := P9.out.below hb9
            have C10 : Hid (Cl w x0 b c' s7 false) := C9.out.below hb9
            rw [N7.out]
            clear hb9 P9 C9
            go_wp2_with fail
            have hS : x0.drew.cell? ⟨Q, 0, none⟩ = some (.int .i64 a.ep) ∧ x0.drew.cell? ⟨Q, 1, none⟩ = some (.int .i64 a.li) ∧ Cl w x0.drew b c' s7 false := ⟨P10.out.c0, P10.out.c1, C10.out.below (Below.refl _ _).drew⟩
            have EC : Hid (∀ u, u.cell? ⟨Q, 0, none⟩ = some (.int .i64 a.ep) ∧ u.cell? ⟨Q, 1, none⟩ = some (.int .i64 a.li) ∧ Cl w u b c' s7 false → Calls Tryd.prog 60 #[.pointer (some ⟨c', 0, none⟩)] u fun e w' => e = .returned (.int .i64 y.e) ∧ (w'.cell? ⟨Q, 0, none⟩ = some (.int .i64 a.ep) ∧ w'.cell? ⟨Q, 1, none⟩ = some (.int .i64 a.li) ∧ Cl w w' b c' s7 false)) := fun u hu => by
              have := epoch_any c' b false s7 u hu.2.2.e hu.2.2.y
              rw [N7.out] at this
              refine this.mono ?_
              rintro e w' ⟨rfl, hb⟩
              exact ⟨rfl, tk hb hu.1, tk hb hu.2.1, hu.2.2.below hb⟩
            have LC : Hid (∀ u, u.cell? ⟨Q, 0, none⟩ = some (.int .i64 a.ep) ∧ u.cell? ⟨Q, 1, none⟩ = some (.int .i64 a.li) ∧ Cl w u b c' s7 false → Calls Tryd.prog 61 #[.pointer (some ⟨c', 0, none⟩)] u fun e w' => e = .returned (.int .i64 y.l) ∧ (w'.cell? ⟨Q, 0, none⟩ = some (.int .i64 a.ep) ∧ w'.cell? ⟨Q, 1, none⟩ = some (.int .i64 a.li) ∧ Cl w w' b c' s7 false)) := fun u hu => by
              have := life_any c' b false s7 u hu.2.2.e hu.2.2.y
              rw [N7.out] at this
              refine this.mono ?_
              rintro e w' ⟨rfl, hb⟩
              exact ⟨rfl, tk hb hu.1, tk hb hu.2.1, hu.2.2.below hb⟩
            clear P10 C10
            go_cut [15] (fun t wx => (∃ q : Bool, t = .bool q) ∧ Cl w wx b c' s7 false)
            case first =>
              cases hee : ((y.e : Int) == a.ep)
              · have hbe : ((y.e : Int) == a.ep) = false := hee
                clear hee
                refine wp_region_noPanic ?_
                refine wp_region_held_drew (S := (fun w' : World => w'.cell? ⟨Q, 0, none⟩ = some (.int .i64 a.ep) ∧ w'.cell? ⟨Q, 1, none⟩ = some (.int .i64 a.li) ∧ Cl w w' b c' s7 false)) (by kernel_rfl) hS (fun _ => ?_)
                refine wpAnyH_take (i := 0) (v := ?_) rfl (by kernel_rfl) (by kernel_rfl) (by kernel_rfl) (fun _ _ _ h => h) (Or.inl ⟨by rfl, ?_⟩) hS ?_
                rotate_left
                · intro w9 hSw; (try dsimp only at hSw); go_simp; try (with_reducible rfl)
                simp only [Act.put, List.getElem_toArray, List.getElem_cons_zero, List.setIfInBounds_toArray, List.set_cons_zero, List.set_cons_succ]
                refine wpAnyH_take (i := 2) (v := ?_) rfl (by kernel_rfl) (by kernel_rfl) (by kernel_rfl) (fun _ _ _ h => h) (Or.inl ⟨by rfl, ?_⟩) hS ?_
                rotate_left
                · intro w9 hSw; (try dsimp only at hSw); go_simp; try (with_reducible rfl)
                simp only [Act.put, List.getElem_toArray, List.getElem_cons_succ, List.getElem_cons_zero, List.setIfInBounds_toArray, List.set_cons_zero, List.set_cons_succ]
                refine wpAnyH_take (i := 3) (v := ?_) rfl (by kernel_rfl) (by kernel_rfl) (by kernel_rfl) (fun _ _ _ h => h) (Or.inl ⟨by rfl, ?_⟩) hS ?_
                rotate_left
                · intro w9 hSw; (try dsimp only at hSw); go_simp; try (with_reducible rfl)
                simp only [Act.put, List.getElem_toArray, List.getElem_cons_succ, List.getElem_cons_zero, List.setIfInBounds_toArray, List.set_cons_zero, List.set_cons_succ]
                refine wpAnyH_ready (rs := [1]) (by kernel_rfl) (by simp) ?_
                refine AllReadyH.cons (o := _) rfl (fun K hK => ?_) AllReadyH.nil
                go_simp
                refine (EC.out _ hS).mono ?_
                rintro e z1 ⟨rfl, hs1⟩
                go_wp2_with fail
                refine hK.out _ _ hs1 (fun _ => ?_)
                clear hK K
                try simp only [Act.put, List.setIfInBounds_toArray, List.set_cons_zero, List.set_cons_succ]
                refine wpAnyH_take (i := 4) (v := ?_) rfl (by kernel_rfl) (by kernel_rfl) (by kernel_rfl) (fun _ _ _ h => h) (Or.inl ⟨by rfl, ?_⟩) hs1 ?_
                rotate_left
                · intro w9 hSw; (try dsimp only at hSw); go_simp; try (with_reducible rfl)
                simp only [Act.put, List.getElem_toArray, List.getElem_cons_succ, List.getElem_cons_zero, List.setIfInBounds_toArray, List.set_cons_zero, List.set_cons_succ]
                refine wpAnyH_take (i := 5) (v := ?_) rfl (by kernel_rfl) (by kernel_rfl) (by kernel_rfl) (fun _ _ _ h => h) (Or.inl ⟨by rfl, ?_⟩) hs1 ?_
                rotate_left
                · intro w9 hSw; (try dsimp only at hSw); go_simp; try (with_reducible rfl)
                simp only [Act.put, List.getElem_toArray, List.getElem_cons_succ, List.getElem_cons_zero, List.setIfInBounds_toArray, List.set_cons_zero, List.set_cons_succ]
                refine wpAnyH_take (i := 6) (v := undef) rfl (by kernel_rfl) (by kernel_rfl) (by kernel_rfl) (fun _ _ _ h => h) (Or.inr ⟨by rfl, rfl⟩) hs1 ?_
                simp only [Act.put, List.getElem_toArray, List.getElem_cons_succ, List.getElem_cons_zero, List.setIfInBounds_toArray, List.set_cons_zero, List.set_cons_succ]
                refine wpAnyH_take (i := 7) (v := undef) rfl (by kernel_rfl) (by kernel_rfl) (by kernel_rfl) (fun _ _ _ h => h) (Or.inr ⟨by rfl, rfl⟩) hs1 ?_
                simp only [Act.put, List.getElem_toArray, List.getElem_cons_succ, List.getElem_cons_zero, List.setIfInBounds_toArray, List.set_cons_zero, List.set_cons_succ]
                refine wpAnyH_take (i := 8) (v := undef) rfl (by kernel_rfl) (by kernel_rfl) (by kernel_rfl) (fun _ _ _ h => h) (Or.inr ⟨by rfl, rfl⟩) hs1 ?_
                simp only [Act.put, List.getElem_toArray, List.getElem_cons_succ, List.getElem_cons_zero, List.setIfInBounds_toArray, List.set_cons_zero, List.set_cons_succ]
                refine wpAnyH_take (i := 9) (v := undef) rfl (by kernel_rfl) (by kernel_rfl) (by kernel_rfl) (fun _ _ _ h => h) (Or.inr ⟨by rfl, rfl⟩) hs1 ?_
                simp only [Act.put, List.getElem_toArray, List.getElem_cons_succ, List.getElem_cons_zero, List.setIfInBounds_toArray, List.set_cons_zero, List.set_cons_succ]
                refine wpAnyH_take (i := 10) (v := undef) rfl (by kernel_rfl) (by kernel_rfl) (by kernel_rfl) (fun _ _ _ h => h) (Or.inr ⟨by rfl, rfl⟩) hs1 ?_
                simp only [Act.put, List.getElem_toArray, List.getElem_cons_succ, List.getElem_cons_zero, List.setIfInBounds_toArray, List.set_cons_zero, List.set_cons_succ]
                refine wpAnyH_take (i := 11) (v := ?_) rfl (by kernel_rfl) (by kernel_rfl) (by kernel_rfl) (fun _ _ _ h => h) (Or.inl ⟨by rfl, ?_⟩) hs1 ?_
                rotate_left
                · intro w9 hSw; (try dsimp only at hSw); go_simp; try (with_reducible rfl)
                simp only [Act.put, List.getElem_toArray, List.getElem_cons_succ, List.getElem_cons_zero, List.setIfInBounds_toArray, List.set_cons_zero, List.set_cons_succ]
                refine wpAnyH_take (i := 12) (v := ?_) rfl (by kernel_rfl) (by kernel_rfl) (by kernel_rfl) (fun _ _ _ h => h) (Or.inl ⟨by rfl, ?_⟩) hs1 ?_
                rotate_left
                · intro w9 hSw; (try dsimp only at hSw); go_simp; try (with_reducible rfl)
                simp only [Act.put, List.getElem_toArray, List.getElem_cons_succ, List.getElem_cons_zero, List.setIfInBounds_toArray, List.set_cons_zero, List.set_cons_succ]
                refine wpAnyH_done (by kernel_rfl) ?_ _
                refine NoPanic.normal ?_
                have C11 : Hid (Cl w _ b c' s7 false) := And.right (And.right hs1)
                go_wp2_with fail
                go_meet
                case rel => exact ⟨⟨_, rfl⟩, C11.out⟩
              · have hbe : ((y.e : Int) == a.ep) = true := hee
                clear hee
                refine wp_region_noPanic ?_
                refine wp_region_held_drew (S := (fun w' : World => w'.cell? ⟨Q, 0, none⟩ = some (.int .i64 a.ep) ∧ w'.cell? ⟨Q, 1, none⟩ = some (.int .i64 a.li) ∧ Cl w w' b c' s7 false)) (by kernel_rfl) hS (fun _ => ?_)
                refine wpAnyH_take (i := 0) (v := ?_) rfl (by kernel_rfl) (by kernel_rfl) (by kernel_rfl) (fun _ _ _ h => h) (Or.inl ⟨by rfl, ?_⟩) hS ?_
                rotate_left
                · intro w9 hSw; (try dsimp only at hSw); go_simp; try (with_reducible rfl)
                simp only [Act.put, List.getElem_toArray, List.getElem_cons_zero, List.setIfInBounds_toArray, List.set_cons_zero, List.set_cons_succ]
                refine wpAnyH_take (i := 2) (v := ?_) rfl (by kernel_rfl) (by kernel_rfl) (by kernel_rfl) (fun _ _ _ h => h) (Or.inl ⟨by rfl, ?_⟩) hS ?_
                rotate_left
                · intro w9 hSw; (try dsimp only at hSw); go_simp; try (with_reducible rfl)
                simp only [Act.put, List.getElem_toArray, List.getElem_cons_succ, List.getElem_cons_zero, List.setIfInBounds_toArray, List.set_cons_zero, List.set_cons_succ]
                refine wpAnyH_take (i := 3) (v := ?_) rfl (by kernel_rfl) (by kernel_rfl) (by kernel_rfl) (fun _ _ _ h => h) (Or.inl ⟨by rfl, ?_⟩) hS ?_
                rotate_left
                · intro w9 hSw; (try dsimp only at hSw); go_simp; try (with_reducible rfl)
                simp only [Act.put, List.getElem_toArray, List.getElem_cons_succ, List.getElem_cons_zero, List.setIfInBounds_toArray, List.set_cons_zero, List.set_cons_succ]
                refine wpAnyH_ready (rs := [1]) (by kernel_rfl) (by simp) ?_
                refine AllReadyH.cons (o := _) rfl (fun K hK => ?_) AllReadyH.nil
                go_simp
                refine (EC.out _ hS).mono ?_
                rintro e z1 ⟨rfl, hs1⟩
                go_wp2_with fail
                refine hK.out _ _ hs1 (fun _ => ?_)
                clear hK K
                try simp only [Act.put, List.setIfInBounds_toArray, List.set_cons_zero, List.set_cons_succ]
                refine wpAnyH_take (i := 4) (v := ?_) rfl (by kernel_rfl) (by kernel_rfl) (by kernel_rfl) (fun _ _ _ h => h) (Or.inl ⟨by rfl, ?_⟩) hs1 ?_
                rotate_left
                · intro w9 hSw; (try dsimp only at hSw); go_simp; try (with_reducible rfl)
                simp only [Act.put, List.getElem_toArray, List.getElem_cons_succ, List.getElem_cons_zero, List.setIfInBounds_toArray, List.set_cons_zero, List.set_cons_succ]
                refine wpAnyH_take (i := 5) (v := ?_) rfl (by kernel_rfl) (by kernel_rfl) (by kernel_rfl) (fun _ _ _ h => h) (Or.inl ⟨by rfl, ?_⟩) hs1 ?_
                rotate_left
                · intro w9 hSw; (try dsimp only at hSw); go_simp; try (with_reducible rfl)
                simp only [Act.put, List.getElem_toArray, List.getElem_cons_succ, List.getElem_cons_zero, List.setIfInBounds_toArray, List.set_cons_zero, List.set_cons_succ]
                refine wpAnyH_take (i := 6) (v := ?_) rfl (by kernel_rfl) (by kernel_rfl) (by kernel_rfl) (fun _ _ _ h => h) (Or.inl ⟨by rfl, ?_⟩) hs1 ?_
                rotate_left
                · intro w9 hSw; (try dsimp only at hSw); go_simp; try (with_reducible rfl)
                simp only [Act.put, List.getElem_toArray, List.getElem_cons_succ, List.getElem_cons_zero, List.setIfInBounds_toArray, List.set_cons_zero, List.set_cons_succ]
                refine wpAnyH_take (i := 8) (v := ?_) rfl (by kernel_rfl) (by kernel_rfl) (by kernel_rfl) (fun _ _ _ h => h) (Or.inl ⟨by rfl, ?_⟩) hs1 ?_
                rotate_left
                · intro w9 hSw; (try dsimp only at hSw); go_simp; try (with_reducible rfl)
                simp only [Act.put, List.getElem_toArray, List.getElem_cons_succ, List.getElem_cons_zero, List.setIfInBounds_toArray, List.set_cons_zero, List.set_cons_succ]
                refine wpAnyH_take (i := 9) (v := ?_) rfl (by kernel_rfl) (by kernel_rfl) (by kernel_rfl) (fun _ _ _ h => h) (Or.inl ⟨by rfl, ?_⟩) hs1 ?_
                rotate_left
                · intro w9 hSw; (try dsimp only at hSw); go_simp; try (with_reducible rfl)
                simp only [Act.put, List.getElem_toArray, List.getElem_cons_succ, List.getElem_cons_zero, List.setIfInBounds_toArray, List.set_cons_zero, List.set_cons_succ]
                refine wpAnyH_ready (rs := [7]) (by kernel_rfl) (by simp) ?_
                refine AllReadyH.cons (o := _) rfl (fun K hK => ?_) AllReadyH.nil
                go_simp
                refine (LC.out _ hs1).mono ?_
                rintro e z7 ⟨rfl, hs2⟩
                go_wp2_with fail
                refine hK.out _ _ hs2 (fun _ => ?_)
                clear hK K
                try simp only [Act.put, List.setIfInBounds_toArray, List.set_cons_zero, List.set_cons_succ]
                refine wpAnyH_take (i := 10) (v := ?_) rfl (by kernel_rfl) (by kernel_rfl) (by kernel_rfl) (fun _ _ _ h => h) (Or.inl ⟨by rfl, ?_⟩) hs2 ?_
                rotate_left
                · intro w9 hSw; (try dsimp only at hSw); go_simp; try (with_reducible rfl)
                simp only [Act.put, List.getElem_toArray, List.getElem_cons_succ, List.getElem_cons_zero, List.setIfInBounds_toArray, List.set_cons_zero, List.set_cons_succ]
                refine wpAnyH_take (i := 11) (v := ?_) rfl (by kernel_rfl) (by kernel_rfl) (by kernel_rfl) (fun _ _ _ h => h) (Or.inl ⟨by rfl, ?_⟩) hs2 ?_
                rotate_left
                · intro w9 hSw; (try dsimp only at hSw); go_simp; try (with_reducible rfl)
                simp only [Act.put, List.getElem_toArray, List.getElem_cons_succ, List.getElem_cons_zero, List.setIfInBounds_toArray, List.set_cons_zero, List.set_cons_succ]
                refine wpAnyH_take (i := 12) (v := ?_) rfl (by kernel_rfl) (by kernel_rfl) (by kernel_rfl) (fun _ _ _ h => h) (Or.inl ⟨by rfl, ?_⟩) hs2 ?_
                rotate_left
                · intro w9 hSw; (try dsimp only at hSw); go_simp; try (with_reducible rfl)
                simp only [Act.put, List.getElem_toArray, List.getElem_cons_succ, List.getElem_cons_zero, List.setIfInBounds_toArray, List.set_cons_zero, List.set_cons_succ]
                refine wpAnyH_done (by kernel_rfl) ?_ _
                refine NoPanic.normal ?_
                have C11 : Hid (Cl w _ b c' s7 false) := And.right (And.right hs2)
                go_wp2_with fail
                go_meet
                case rel => exact ⟨⟨_, rfl⟩, C11.out⟩
            case rest =>
              obtain ⟨⟨q, rfl⟩, hc11⟩ := hcut
              have C11 : Hid (Cl w wc b c' s7 false) := hc11
              clear hc11
              go_wp2_with fail
              refine (epoch_any c' b false s7 _ C11.out.e C11.out.y).mono ?_
              rintro e x1 ⟨rfl, hb9⟩
              have C12 : Hid (Cl w x1 b c' s7 false) := C11.out.below hb9
              rw [N7.out]
              clear hb9
              go_wp2_with fail
              refine (life_any c' b false s7 x1 C12.out.e C12.out.y).mono ?_
              rintro e x2 ⟨rfl, hb9⟩
              have C13 : Hid (Cl w x2 b c' s7 false) := C12.out.below hb9
              rw [N7.out]
              clear hb9
              go_wp2_with fail
              refine ⟨⟨i + 1, c', s7, by omega, by go_num, rfl, by rw [N7.out], by rw [N7.out], O7.out, C13.out⟩, by simp [intOf]; omega⟩
      · go_wp2_with fail
        go_ret
        exact ⟨rfl, CR.out.bl⟩
  · have hl60 : (60 : Int) < (l.length : Int) := by omega
    go_enter Tryd.func9, Tryd.ntmps9
    go_wp2_with fail
    refine (kept_any se w HE.out).mono ?_
    rintro e w0 ⟨rfl, hb0⟩
    have B0 : Hid (Below w.heap.size w w0) := hb0
    clear hb0
    go_wp2_with fail
    go_ret
    exact ⟨rfl, B0.out⟩
end Go.Proofs.YtdkfjjamfefcaabDoor
