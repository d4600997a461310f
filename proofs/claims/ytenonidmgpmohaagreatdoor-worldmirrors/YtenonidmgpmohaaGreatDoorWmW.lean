/-
  The law WorldMirrors: where the node that is active settles, and nothing of its table changes meanwhile, the other one's mirror is its table.
-/
import Derived.Test.YtenonidmgpmohaaGreatDoorWaH
import Derived.Test.YtenonidmgpmohaaGreatDoorWmS
import Derived.Test.YtenonidmgpmohaaGreatDoorWmE
import Derived.Test.YtenonidmgpmohaaGreatDoorWoNd
import Derived.Deep.RegionHeld3
namespace Go.Proofs.YtenonidmgpmohaaGreatDoor
open Go.RowKit

abbrev PM : Nat → Wo → Prop := fun q W => Ap (q + 1) W ∧ Mi W
theorem PM.act (q : Nat) (hq : q ≤ 800) (W W' : Wo) (h : PM q W) (hI : In (q + 1) W) (hr : RulesOk W.ru) (s : Stp W W') : PM (q + 1) W' := ⟨h.1.stp hI (by omega) hr s, h.2.stp hI h.1 (by omega) hr s⟩
/-- both nodes of a world, or one is down. -/
theorem two_nodes {w1 wr : World} {wb q : Nat} {P : Nat → Wo → Prop} {s : Nat → Addr} (S : SeM w1 s) (h : LA w1 wr wb q P) :
    ∃ nk0 W, P q W ∧ W.fl.length ≤ 200 ∧ In (q + 1) W ∧ LQ w1 wr wb q nk0 none (fun V => V = W) ∧ (∀ i, i < 2 → ∀ x, W.nd i = some x → 0 ≤ x.now) ∧ ∀ j : Nat, j < 2 → ∀ u, LQ w1 u wb q nk0 none (fun V => V = W) → Calls Tryz.prog 9 #[.pointer (some ⟨wb, 0, none⟩), .int .i64 j] u fun e w' => ((∃ k x, e = .returned (.tuple #[.pointer (some ⟨k.nd, 0, none⟩), .nilIface]) ∧ nk0 j = some k ∧ W.nd j = some x) ∨ (∃ a, e = .returned (.tuple #[.pointer none, .iface 215 (.pointer (some a))]))) ∧ LQ w1 w' wb q nk0 none (fun V => V = W) := by
  obtain ⟨K, W, t, wd, ht, hI, p, rfl, hy⟩ := h
  refine ⟨K.nk, W, p, wd.fl.le, hI, ⟨K, W, t, wd, ht, hI, rfl, rfl, fun _ _ e => e, fun _ _ e => by cases e⟩, fun i hi x hx => ?_, fun j hj u hu => ?_⟩
  · obtain ⟨k, m, n, _, _, _, _, _, q3, _⟩ := wd.up hi hx
    exact q3
  · have hu' := hu
    obtain ⟨K2, W2, t2, wd2, ht2, hI2, p2, e2, hk2, hf2⟩ := hu
    subst p2
    have hc := node_wd S wd2 j
    rw [e2] at hc
    refine hc.mono ?_
    rintro e w' ⟨hcase, hb⟩
    refine ⟨?_, hu'.below hb⟩
    rcases hcase with ⟨i', y, k, ej, _, hn, hk, rfl⟩ | ⟨e1, _, rfl⟩
    · obtain rfl : j = i' := by omega
      exact .inl ⟨k, y, rfl, hk2 j k hk, hn⟩
    · exact .inr ⟨_, rfl⟩
theorem dl_nd_some (W : Wo) : ∀ (d i : Nat) (x : No), W.nd i = some x → ∃ x', (dl d W).nd i = some x'
  | 0, _, x, h => ⟨x, h⟩
  | d + 1, i, x, h => by
    obtain ⟨x1, h1⟩ := dl_nd_some W d i x h
    show ∃ x', ((dl d W).dlv 0).nd i = some x'
    generalize dl d W = V at h1 ⊢
    unfold Wo.dlv
    split
    · cases V.fl[Int.toNat 0]? with
      | none => exact ⟨x1, h1⟩
      | some t =>
        show ∃ x', (V.delivered (Int.toNat 0) t).nd i = some x'
        unfold Wo.delivered
        split
        · rw [(heard_same _ t).1]; exact ⟨x1, h1⟩
        · unfold Wo.handed
          split
          · rename_i z hz
            by_cases e : i = (1 - t.fr).toNat
            · exact ⟨z.hrd t, by subst e; exact setN_same _ _ _⟩
            · exact ⟨x1, (setN_other _ _ e).trans h1⟩
          · exact ⟨x1, h1⟩
    · exact ⟨x1, h1⟩
theorem sl_eq {w : World} {Z : Nat} {T U : Tb} (h : Sl10 w Z T) (e : ∀ j, j < 32 → T j = U j) : Sl10 w Z U := by
  obtain ⟨cs, ty, h1, h2⟩ := h
  exact ⟨cs, ty, h1, fun i k hi hk => by rw [← e i hi]; exact h2 i k hi hk⟩
set_option maxRecDepth 100000 in
set_option maxHeartbeats 8000000 in
theorem mirrors_law (v0 : Value) (rl : List Rl) (v1 : Value) (l : List Sp) (fi : Int) (s : Nat → Addr) (w : World) (S : SeM w s) (R : Sl w v0 rl) (L : SpsI w v1 l) :
    Calls Tryz.prog 3 #[v0, v1, .int .i64 fi] w fun e w' => e = .returned (.bool true) ∧ Below w.heap.size w w' := by
  obtain ⟨rp, rc, rfl, _⟩ := R.open
  obtain ⟨p, cap, rfl, hmx, hl⟩ := L
  have HS : Hid (SeM w s) := S
  have HR : Hid (Sl w (.slice rp rl.length rc) rl) := R
  have HL : Hid (SpsI w (.slice p l.length cap) l) := ⟨p, cap, rfl, hmx, hl⟩
  clear S R hl hmx
  go_enter Tryz.func3, Tryz.ntmps3
  go_wp2_with fail
  refine (born_any HS.out).mono ?_
  rintro e w2 ⟨rfl, b2⟩
  have B2 : Hid (Below w.heap.size w w2) := b2
  clear b2
  by_cases h30 : (30 : Int) < (rl.length : Int)
  · go_wp2_with fail
    go_ret
    exact ⟨rfl, B2.out⟩
  · go_wp2_with fail
    have HF := fit_any (.slice p l.length cap) l 300 w2 (HL.out.below B2.out)
    refine HF.mono ?_
    clear HF
    rintro e w3 ⟨⟨b, rfl, hb⟩, rfl⟩
    cases b
    · go_wp2_with fail
      go_ret
      exact ⟨rfl, B2.out⟩
    · have h30d : decide ((30 : Int) < (rl.length : Int)) = false := decide_eq_false (by omega)
      simp only [h30d]
      have HRL : Hid (rl.length ≤ 1000) := by show rl.length ≤ 1000; omega
      clear h30d h30
      have HFIT : Hid (l.length ≤ 300 ∧ ∀ x ∈ l, x.ru.length ≤ 30) := hb rfl
      clear hb
      by_cases hfi : 0 ≤ fi ∧ fi < 2
      rotate_left
      · by_cases hf0 : fi < 0
        · go_wp2_with fail
          go_ret
          exact ⟨rfl, B2.out⟩
        · have hf1 : (1 : Int) < fi := by omega
          go_wp2_with fail
          go_ret
          exact ⟨rfl, B2.out⟩
      obtain ⟨f, rfl⟩ : ∃ f : Nat, fi = f := ⟨fi.toNat, by omega⟩
      have HF2 : Hid (f < 2) := (by omega : f < 2)
      have d0 : decide ((f : Int) < 0) = false := decide_eq_false (by omega)
      have d1 : decide ((1 : Int) < (f : Int)) = false := decide_eq_false (by omega)
      clear hfi
      go_wp2_with fail
      try simp only [d0, d1]
      clear d0 d1
      refine (own_at _ rl w3 (HR.out.below B2.out) HRL.out).mono ?_
      rintro e w4 ⟨⟨v4, rfl, s4, a4⟩, b4⟩
      have B4 : Hid (Below w.heap.size w w4) := t2 B2.out b4
      have S4 : Hid (SeM w4 s) := HS.out.below B4.out
      have R4 : Hid (Sl w4 v4 rl ∧ ∀ a n c, v4 = .slice (some a) n c → a.block < w4.heap.size) := ⟨s4, fun a n c e => (a4 a n c e).2⟩
      clear s4 a4 b4
      go_wp2_with fail
      refine (new_wd S4.out v4 rl R4.out.1 R4.out.2 HRL.out).mono ?_
      rintro e w5 hcase
      rcases hcase with ⟨hok, K, rfl, wd, hyk⟩ | ⟨hno, ⟨v', rfl, hch⟩, hb5⟩
      rotate_left
      · obtain ⟨e1, e2, rfl⟩ := chk_iface hno hch
        have B5 : Hid (Below w.heap.size w w5) := t2 B4.out hb5
        clear hb5 hch
        go_wp2_with fail
        go_ret
        exact ⟨rfl, B5.out⟩
      · have LA0 : Hid (LA w4 w5 K.wb 0 PM) := ⟨K, Wo.born rl, 0, wd, Nat.le_refl _, In.born hok, ⟨(Ap.born rl).mono (by omega), Mi.born hok⟩, rfl, hyk⟩
        clear wd hyk hok
        generalize K.wb = wb at *
        clear K
        have L4 : Hid (SpsI w4 (.slice p l.length cap) l) := HL.out.below B4.out
        have hl400 : (l.length : Int) ≤ 300 := by have := HFIT.out.1; omega
        go_wp2_with fail
        go_loopw [10] (fun t8 wr => ∃ i : Nat, i ≤ l.length ∧ t8 = .int .i64 i ∧ LA w4 wr wb i PM) (fun t8 _ => l.length - (intOf t8).toNat)
        case atStart => exact ⟨0, by omega, rfl, LA0.out⟩
        case round =>
          obtain ⟨i, hi, rfl, li⟩ := hrel
          have LI : Hid (LA w4 wr wb i PM) := li
          clear li LA0
          by_cases hlt : i < l.length
          · have i0 : (0 : Int) ≤ (i : Int) := by omega
            have i1 : (i : Int) < (l.length : Int) := by omega
            obtain ⟨x, hx⟩ : ∃ x, l[i]? = some x := ⟨l[i], List.getElem?_eq_getElem hlt⟩
            obtain ⟨_, _, e0, _, hc⟩ := L4.out
            cases e0
            obtain ⟨ok, b, o, rfl, hd⟩ := hc i x hx
            have HX : Hid (SpOk w4 x ∧ x.ru.length ≤ 30) := ⟨ok, HFIT.out.2 x (List.mem_of_getElem? hx)⟩
            have cc : ∀ (j : Nat) u, (spC x)[j]? = some u → wr.cell? ⟨b, o + i * 10 + j, none⟩ = some u := fun j u hu => tk LI.out.bl (hd j u hu)
            have c0 := cc 0 (.string x.kd) rfl
            have c1 := cc 1 (.int .i64 x.s) rfl
            have c2 := cc 2 (.int .i64 x.n) rfl
            have c3 := cc 3 (.int .i64 x.p.pr) rfl
            have c4 := cc 4 (.int .i64 x.p.a1) rfl
            have c5 := cc 5 (.int .i64 x.p.p1) rfl
            have c6 := cc 6 (.int .i64 x.p.a2) rfl
            have c7 := cc 7 (.int .i64 x.p.p2) rfl
            have c8 := cc 8 (.int .i64 x.p.fl) rfl
            have c9 := cc 9 x.rv rfl
            rw [Nat.add_zero] at c0
            clear ok hc hd cc hx
            go_wp2_with fail
            refine (LI.out.act S4.out (by omega) x HX.out.1 HX.out.2 (PM.act i (by omega))).mono ?_
            rintro e w6 ⟨rfl, l6⟩
            have L6 : Hid (LA w4 w6 wb (i + 1) PM) := l6
            clear l6 LI HX c0 c1 c2 c3 c4 c5 c6 c7 c8 c9
            go_wp2_with fail
            exact ⟨⟨i + 1, by omega, by go_num, L6.out⟩, by simp [intOf]; omega⟩
          · obtain rfl : i = l.length := by omega
            obtain ⟨nk0, W, pW, hfl, hIW, lq, hnow, hnode⟩ := two_nodes S4.out LI.out
            have HP : Hid (PM l.length W ∧ W.fl.length ≤ 200 ∧ In (l.length + 1) W) := ⟨pW, hfl, hIW⟩
            have HN : Hid (∀ j : Nat, j < 2 → ∀ u, LQ w4 u wb l.length nk0 none (fun V => V = W) → Calls Tryz.prog 9 #[.pointer (some ⟨wb, 0, none⟩), .int .i64 j] u fun e w' => ((∃ k x, e = .returned (.tuple #[.pointer (some ⟨k.nd, 0, none⟩), .nilIface]) ∧ nk0 j = some k ∧ W.nd j = some x) ∨ (∃ a, e = .returned (.tuple #[.pointer none, .iface 215 (.pointer (some a))]))) ∧ LQ w4 w' wb l.length nk0 none (fun V => V = W)) := hnode
            have L0 : Hid (LQ w4 wr wb l.length nk0 none (fun V => V = W)) := lq
            clear pW hfl hIW lq hnow hnode LI
            have hsub : IntKind.i64.wrap (1 - (f : Int)) = ((1 - f : Nat) : Int) := by have := HF2.out; rw [IntKind.wrap_i64]; omega
            have hsub2 : (1 : Int) - (f : Int) = ((1 - f : Nat) : Int) := by have := HF2.out; omega
            have hf0 : (0 : Int) ≤ (f : Int) := by omega
            have hf1 : (f : Int) < 2 := by have := HF2.out; omega
            go_wp2_with fail
            refine (HN.out f HF2.out wr L0.out).mono ?_
            rintro e w6 ⟨hc6, l6⟩
            have L6 : Hid (LQ w4 w6 wb l.length nk0 none (fun V => V = W)) := l6
            clear l6 L0
            have HC6 : Hid ((∃ k x, e = .returned (.tuple #[.pointer (some ⟨k.nd, 0, none⟩), .nilIface]) ∧ nk0 f = some k ∧ W.nd f = some x) ∨ (∃ a, e = .returned (.tuple #[.pointer none, .iface 215 (.pointer (some a))]))) := hc6
            obtain ⟨pa, ea, rfl⟩ : ∃ pa ea, e = .returned (.tuple #[pa, ea]) := by
              rcases hc6 with ⟨k, x, e1, _⟩ | ⟨a, e1⟩
              · exact ⟨_, _, e1⟩
              · exact ⟨_, _, e1⟩
            clear hc6
            go_wp2_with fail
            refine (HN.out (1 - f) (by have := HF2.out; omega) w6 L6.out).mono ?_
            rintro e w7 ⟨hc7, l7⟩
            have L7 : Hid (LQ w4 w7 wb l.length nk0 none (fun V => V = W)) := l7
            clear l7 L6 HN hsub hsub2
            rcases HC6.out with ⟨k, x, e1, hk, hx⟩ | ⟨a, e1⟩
            rotate_left
            · obtain ⟨rfl, rfl⟩ : pa = .pointer none ∧ ea = .iface 215 (.pointer (some a)) := by cases e1; exact ⟨rfl, rfl⟩
              obtain ⟨pb, eb, rfl⟩ : ∃ pa ea, e = .returned (.tuple #[pa, ea]) := by
                rcases hc7 with ⟨k, x, e1, _⟩ | ⟨a, e1⟩
                · exact ⟨_, _, e1⟩
                · exact ⟨_, _, e1⟩
              clear hc7 e1 HC6
              go_wp2_with fail
              go_ret
              exact ⟨rfl, t2 B4.out L7.out.bl⟩
            obtain ⟨rfl, rfl⟩ : pa = .pointer (some ⟨k.nd, 0, none⟩) ∧ ea = .nilIface := by cases e1; exact ⟨rfl, rfl⟩
            rcases hc7 with ⟨kb, y, rfl, hkb, hy⟩ | ⟨a, rfl⟩
            rotate_left
            · clear e1 HC6
              go_wp2_with fail
              go_ret
              exact ⟨rfl, t2 B4.out L7.out.bl⟩
            have HK : Hid (nk0 f = some k ∧ W.nd f = some x ∧ nk0 (1 - f) = some kb ∧ W.nd (1 - f) = some y) := ⟨hk, hx, hkb, hy⟩
            have LD : Hid (LQ w4 w7 wb l.length nk0 none (fun V => V = dl 0 W)) := L7.out
            clear hk hx hkb hy e1 HC6 L7
            go_wp2_with fail
            go_loopw [15] (fun t u => ∃ d : Nat, d ≤ 200 ∧ t = .int .i64 d ∧ LQ w4 u wb l.length nk0 none (fun V => V = dl d W)) (fun t _ => 200 - (intOf t).toNat)
            case atStart => exact ⟨0, by omega, rfl, LD.out⟩
            case round =>
              obtain ⟨d, hd, rfl, ld⟩ := hrel
              have LJ : Hid (LQ w4 wr wb l.length nk0 none (fun V => V = dl d W)) := ld
              clear ld LD
              by_cases hd2 : d < 200
              · have d1 : (d : Int) < 200 := by omega
                go_wp2_with fail
                refine (LJ.out.dlv S4.out (P' := fun V => V = dl (d + 1) W) (fun V e => by rw [e]; rfl)).mono ?_
                rintro e w8 ⟨⟨v8, rfl⟩, l8⟩
                have L8 : Hid (LQ w4 w8 wb l.length nk0 none (fun V => V = dl (d + 1) W)) := l8
                clear l8 LJ
                go_wp2_with fail
                exact ⟨⟨d + 1, by omega, by go_num, L8.out⟩, by simp [intOf]; omega⟩
              · obtain rfl : d = 200 := by omega
                rw [show ((200 : Nat) : Int) = 200 from rfl]
                obtain ⟨W1, hW1⟩ : ∃ W1, W1 = dl 200 W := ⟨_, rfl⟩
                have L1 : Hid (LQ w4 wr wb l.length nk0 none (fun V => V = W1)) := by rw [hW1]; exact LJ.out
                have HW1 : Hid (W1.fl = [] ∧ Ap (l.length + 1) W1 ∧ Mi W1 ∧ In (l.length + 1) W1) := by
                  rw [hW1]
                  exact ⟨dl_all W HP.out.2.1, HP.out.1.1.dl 200, HP.out.1.2.dl 200, HP.out.2.2.dl 200⟩
                obtain ⟨x1, hx1⟩ := dl_nd_some W 200 f x HK.out.2.1
                obtain ⟨y1, hy1⟩ := dl_nd_some W 200 (1 - f) y HK.out.2.2.2
                rw [← hW1] at hx1 hy1
                have HXY : Hid (W1.nd f = some x1 ∧ W1.nd (1 - f) = some y1) := ⟨hx1, hy1⟩
                clear hx1 hy1 hW1 LJ HP
                go_wp2_with fail
                obtain ⟨m1, n1, nd1⟩ := L1.out.at' HF2.out HXY.out.1 HK.out.1
                refine (table_nd nd1).mono ?_
                clear nd1
                rintro e w8 ⟨⟨Z, rfl, cb8, hZ8⟩, b8⟩
                have L8 : Hid (LQ w4 w8 wb l.length nk0 (some (Z, .cells (slotsArr x1.T) 111 (0, 0))) (fun V => V = W1)) := by
                  obtain ⟨K, V, t, wd, ht, hI, p, e, hk, _⟩ := L1.out
                  refine ⟨K, V, t, wd.below b8, ht, hI, p, e, hk, fun Z' o ez => ?_⟩
                  cases ez
                  exact ⟨wd.al Z hZ8, cb8.lt, cb8⟩
                clear b8 cb8 hZ8 L1
                obtain ⟨m2, n2, nd2⟩ := L8.out.at' HF2.out HXY.out.1 HK.out.1
                have c80 := nd2.c0
                have R8 : Hid (Rol w8 k.ro x1.ro) := nd2.ro
                clear nd2
                go_wp2_with fail
                refine (active_any k.ro x1.ro w8 R8.out).mono ?_
                rintro e w9 ⟨rfl, hw9⟩
                obtain rfl := hw9.symm
                clear hw9 c80
                cases hac : x1.ro.ac
                · go_wp2_with fail
                  refine (settle_lq (n := f) S4.out (by omega) L8.out).mono ?_
                  rintro e w9 ⟨hs, b9⟩
                  have B9 : Hid (Below w.heap.size w w9) := t2 B4.out b9
                  clear b9 L8
                  rcases hs with ⟨rfl, _⟩ | ⟨a9, e9, rfl⟩
                  · go_wp2_with fail
                    go_ret
                    exact ⟨rfl, B9.out⟩
                  · go_wp2_with fail
                    go_ret
                    exact ⟨rfl, B9.out⟩
                · have HNOW : Hid (0 ≤ x1.now) := by
                    obtain ⟨V, e, _, hn, _⟩ := L8.out.fix
                    subst e
                    exact hn f x1 HXY.out.1 HF2.out
                  have HSA : Hid (Sa (l.length + 1) f W1 x1 y1) := ⟨HXY.out.1, HXY.out.2, HW1.out.1, hac, HW1.out.2.2.1, HW1.out.2.1, HW1.out.2.2.2⟩
                  clear hac HW1
                  go_wp2_with fail
                  refine (settle_lq (n := f) S4.out (by omega) L8.out).mono ?_
                  rintro e w9 ⟨hs, b9⟩
                  have B9 : Hid (Below w.heap.size w w9) := t2 B4.out b9
                  clear b9 L8
                  rcases hs with ⟨rfl, l9⟩ | ⟨a9, e9, rfl⟩
                  rotate_left
                  · go_wp2_with fail
                    go_ret
                    exact ⟨rfl, B9.out⟩
                  · obtain ⟨_, x2, y2, sa2, hg2, hfin⟩ := settled HSA.out HF2.out (by omega) HNOW.out
                    have L9 : Hid (LQ w4 w9 wb (l.length + 24) nk0 (some (Z, .cells (slotsArr x1.T) 111 (0, 0))) (fun V => V = rnds f 24 W1)) := l9
                    have SA2 : Hid (Sa (l.length + 1 + 24) f (rnds f 24 W1) x2 y2) := sa2
                    have HG2 : Hid (Grw x1.T x2.T ∧ ((∀ j, j < 32 → x2.T j = x1.T j) → ∀ j, j < 32 → y2.mt j = x2.T j)) := ⟨hg2, hfin⟩
                    clear l9 sa2 hg2 hfin
                    obtain ⟨m3, n3, nd3⟩ := L9.out.at' HF2.out SA2.out.nx HK.out.1
                    have ND3 : Hid (Nd w4 w9 k x2 m3 n3) := nd3
                    have c90 := nd3.c0
                    clear nd3
                    go_wp2_with fail
                    refine (active_any k.ro x2.ro w9 ND3.out.ro).mono ?_
                    rintro e w10 ⟨rfl, hw10⟩
                    obtain rfl := hw10.symm
                    clear hw10
                    rw [SA2.out.ac]
                    go_wp2_with fail
                    refine (table_nd ND3.out).mono ?_
                    rintro e w10 ⟨⟨Z2, rfl, cb10, _⟩, b10⟩
                    have L10 : Hid (LQ w4 w10 wb (l.length + 24) nk0 (some (Z, .cells (slotsArr x1.T) 111 (0, 0))) (fun V => V = rnds f 24 W1)) := L9.out.below b10
                    have CB2 : Hid (CellsB w10 Z2 x2.T) := cb10
                    have CB1 : Hid (CellsB w10 Z x1.T) := by
                      obtain ⟨K, V, t, wd, ht, hI, p, e, hk, hf⟩ := L10.out
                      exact (hf Z _ rfl).2.2
                    clear cb10 b10 L9 ND3 c90
                    go_wp2_with fail
                    refine (msame2_any Z2 Z 32 32 x2.T x1.T w10 CB2.out.sl CB1.out.sl (fun j hj => by
                      rcases HG2.out.1 j hj with q | q
                      · exact .inl q
                      · exact .inr (by omega))).mono ?_
                    rintro e w11 ⟨⟨b, rfl, hb⟩, b11⟩
                    have HB : Hid (b = true → ∀ j, j < 32 → x2.T j = x1.T j) := hb
                    have L11 : Hid (LQ w4 w11 wb (l.length + 24) nk0 (some (Z, .cells (slotsArr x1.T) 111 (0, 0))) (fun V => V = rnds f 24 W1)) := L10.out.below b11
                    clear hb b11 L10 CB1 CB2
                    cases b
                    · go_wp2_with fail
                      go_ret
                      exact ⟨rfl, t2 B4.out L11.out.bl⟩
                    · have HEQ : Hid (∀ j, j < 32 → y2.mt j = x2.T j) := HG2.out.2 (HB.out rfl)
                      clear HB
                      obtain ⟨m4, n4, nd4⟩ := L11.out.at' (by have := HF2.out; omega) SA2.out.ny HK.out.2.2.1
                      have ND4 : Hid (Nd w4 w11 kb y2 m4 n4) := nd4
                      clear nd4
                      go_wp2_with fail
                      refine (mirror_nd ND4.out).mono ?_
                      rintro e w12 ⟨⟨Z3, rfl, cb12⟩, b12⟩
                      have CB3 : Hid (CellsB w12 Z3 y2.mt) := cb12
                      have L12 : Hid (LQ w4 w12 wb (l.length + 24) nk0 (some (Z, .cells (slotsArr x1.T) 111 (0, 0))) (fun V => V = rnds f 24 W1)) := L11.out.below b12
                      clear cb12 b12 L11 ND4
                      obtain ⟨m5, n5, nd5⟩ := L12.out.at' HF2.out SA2.out.nx HK.out.1
                      have ND5 : Hid (Nd w4 w12 k x2 m5 n5) := nd5
                      clear nd5
                      go_wp2_with fail
                      refine (table_nd ND5.out).mono ?_
                      rintro e w13 ⟨⟨Z4, rfl, cb13, _⟩, b13⟩
                      have CB4 : Hid (CellsB w13 Z4 x2.T) := cb13
                      have CB5 : Hid (CellsB w13 Z3 y2.mt) := CB3.out.below b13
                      have L13 : Hid (LQ w4 w13 wb (l.length + 24) nk0 (some (Z, .cells (slotsArr x1.T) 111 (0, 0))) (fun V => V = rnds f 24 W1)) := L12.out.below b13
                      clear cb13 b13 L12 ND5 CB3
                      go_wp2_with fail
                      refine (msame_any Z3 Z4 32 32 x2.T w13 (sl_eq CB5.out.sl HEQ.out) CB4.out.sl).mono ?_
                      rintro e w14 ⟨rfl, b14⟩
                      have B14 : Hid (Below w.heap.size w w14) := t2 B4.out (L13.out.below b14).bl
                      clear b14 L13
                      go_wp2_with fail
                      go_ret
                      exact ⟨rfl, B14.out⟩
end Go.Proofs.YtenonidmgpmohaaGreatDoor
