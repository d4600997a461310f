/-
  The law WorldOne: where both are up, and tick in turn, and all comes at once, behind some twenty ticks just one is active, and the switch knows it.
-/
import Derived.Test.YtegihhjddnckgaaGreatDoorWaH
import Derived.Test.YtegihhjddnckgaaGreatDoorWnL
import Derived.Deep.RegionHeld3
namespace Go.Proofs.YtegihhjddnckgaaGreatDoor
open Go.RowKit

set_option maxRecDepth 100000 in
set_option maxHeartbeats 8000000 in
theorem one_law (v0 : Value) (rl : List Rl) (v1 : Value) (l : List Sp) (fi : Int) (s : Nat → Addr) (w : World) (S : SeM w s) (R : Sl w v0 rl) (L : SpsI w v1 l) :
    Calls Tryz.prog 3 #[v0, v1, .int .i64 fi] w fun e w' => e = .returned (.bool true) ∧ Below w.heap.size w w' := by
  obtain ⟨rp, rc, rfl, _⟩ := R.open
  obtain ⟨p, cap, rfl, hmx, hl⟩ := L
  have HS : Hid (SeM w s) := S
  have HR : Hid (Sl w (.slice rp rl.length rc) rl) := R
  have HL : Hid (SpsI w (.slice p l.length cap) l) := ⟨p, cap, rfl, hmx, hl⟩
  clear S R hl hmx
  go_enter Tryz.func3, Tryz.ntmps3
  go_wp2_with fail
  refine (born_any HS.out).mono ?_
  rintro e w2 ⟨rfl, b2⟩
  have B2 : Hid (Below w.heap.size w w2) := b2
  clear b2
  by_cases h30 : (30 : Int) < (rl.length : Int)
  · go_wp2_with fail
    go_ret
    exact ⟨rfl, B2.out⟩
  · go_wp2_with fail
    have HF := fit_any (.slice p l.length cap) l 200 w2 (HL.out.below B2.out)
    refine HF.mono ?_
    clear HF
    rintro e w3 ⟨⟨b, rfl, hb⟩, rfl⟩
    cases b
    · go_wp2_with fail
      go_ret
      exact ⟨rfl, B2.out⟩
    · have h30d : decide ((30 : Int) < (rl.length : Int)) = false := decide_eq_false (by omega)
      simp only [h30d]
      have HRL : Hid (rl.length ≤ 1000) := by show rl.length ≤ 1000; omega
      clear h30d h30
      have HFIT : Hid (l.length ≤ 200 ∧ ∀ x ∈ l, x.ru.length ≤ 30) := hb rfl
      clear hb
      by_cases hfi : 0 ≤ fi ∧ fi < 2
      rotate_left
      · by_cases hf0 : fi < 0
        · go_wp2_with fail
          go_ret
          exact ⟨rfl, B2.out⟩
        · have hf1 : (1 : Int) < fi := by omega
          go_wp2_with fail
          go_ret
          exact ⟨rfl, B2.out⟩
      obtain ⟨f, rfl⟩ : ∃ f : Nat, fi = f := ⟨fi.toNat, by omega⟩
      have HF2 : Hid (f < 2) := (by omega : f < 2)
      have d0 : decide ((f : Int) < 0) = false := decide_eq_false (by omega)
      have d1 : decide ((1 : Int) < (f : Int)) = false := decide_eq_false (by omega)
      clear hfi
      go_wp2_with fail
      try simp only [d0, d1]
      clear d0 d1
      refine (own_at _ rl w3 (HR.out.below B2.out) HRL.out).mono ?_
      rintro e w4 ⟨⟨v4, rfl, s4, a4⟩, b4⟩
      have B4 : Hid (Below w.heap.size w w4) := t2 B2.out b4
      have S4 : Hid (SeM w4 s) := HS.out.below B4.out
      have R4 : Hid (Sl w4 v4 rl ∧ ∀ a n c, v4 = .slice (some a) n c → a.block < w4.heap.size) := ⟨s4, fun a n c e => (a4 a n c e).2⟩
      clear s4 a4 b4
      go_wp2_with fail
      refine (new_wd S4.out v4 rl R4.out.1 R4.out.2 HRL.out).mono ?_
      rintro e w5 hcase
      rcases hcase with ⟨hok, K, rfl, wd, hyk⟩ | ⟨hno, ⟨v', rfl, hch⟩, hb5⟩
      rotate_left
      · obtain ⟨e1, e2, rfl⟩ := chk_iface hno hch
        have B5 : Hid (Below w.heap.size w w5) := t2 B4.out hb5
        clear hb5 hch
        go_wp2_with fail
        go_ret
        exact ⟨rfl, B5.out⟩
      · have LA0 : Hid (LA w4 w5 K.wb 0 PA) := ⟨K, Wo.born rl, 0, wd, Nat.le_refl _, In.born hok, (Ap.born rl).mono (by omega), rfl, hyk⟩
        clear wd hyk hok
        generalize K.wb = wb at *
        clear K
        have L4 : Hid (SpsI w4 (.slice p l.length cap) l) := HL.out.below B4.out
        have hl400 : (l.length : Int) ≤ 200 := by have := HFIT.out.1; omega
        go_wp2_with fail
        go_loopw [10] (fun t8 wr => ∃ i : Nat, i ≤ l.length ∧ t8 = .int .i64 i ∧ LA w4 wr wb i PA) (fun t8 _ => l.length - (intOf t8).toNat)
        case atStart => exact ⟨0, by omega, rfl, LA0.out⟩
        case round =>
          obtain ⟨i, hi, rfl, li⟩ := hrel
          have LI : Hid (LA w4 wr wb i PA) := li
          clear li LA0
          by_cases hlt : i < l.length
          · have i0 : (0 : Int) ≤ (i : Int) := by omega
            have i1 : (i : Int) < (l.length : Int) := by omega
            obtain ⟨x, hx⟩ : ∃ x, l[i]? = some x := ⟨l[i], List.getElem?_eq_getElem hlt⟩
            obtain ⟨_, _, e0, _, hc⟩ := L4.out
            cases e0
            obtain ⟨ok, b, o, rfl, hd⟩ := hc i x hx
            have HX : Hid (SpOk w4 x ∧ x.ru.length ≤ 30) := ⟨ok, HFIT.out.2 x (List.mem_of_getElem? hx)⟩
            have cc : ∀ (j : Nat) u, (spC x)[j]? = some u → wr.cell? ⟨b, o + i * 10 + j, none⟩ = some u := fun j u hu => tk LI.out.bl (hd j u hu)
            have c0 := cc 0 (.string x.kd) rfl
            have c1 := cc 1 (.int .i64 x.s) rfl
            have c2 := cc 2 (.int .i64 x.n) rfl
            have c3 := cc 3 (.int .i64 x.p.pr) rfl
            have c4 := cc 4 (.int .i64 x.p.a1) rfl
            have c5 := cc 5 (.int .i64 x.p.p1) rfl
            have c6 := cc 6 (.int .i64 x.p.a2) rfl
            have c7 := cc 7 (.int .i64 x.p.p2) rfl
            have c8 := cc 8 (.int .i64 x.p.fl) rfl
            have c9 := cc 9 x.rv rfl
            rw [Nat.add_zero] at c0
            clear ok hc hd cc hx
            go_wp2_with fail
            refine (LI.out.act S4.out (by omega) x HX.out.1 HX.out.2 (PA.act i (by omega))).mono ?_
            rintro e w6 ⟨rfl, l6⟩
            have L6 : Hid (LA w4 w6 wb (i + 1) PA) := l6
            clear l6 LI HX c0 c1 c2 c3 c4 c5 c6 c7 c8 c9
            go_wp2_with fail
            exact ⟨⟨i + 1, by omega, by go_num, L6.out⟩, by simp [intOf]; omega⟩
          · obtain rfl : i = l.length := by omega
            obtain ⟨W, LW0⟩ : ∃ W, Ap (l.length + 1) W ∧ W.fl.length ≤ 200 ∧ LP w4 wr wb l.length (fun V => V = W) := by
              obtain ⟨K, W, t, wd, ht, hI, ap, e, hyk⟩ := LI.out
              exact ⟨W, ap, wd.fl.le, K, W, t, wd, ht, hI, rfl, e, hyk⟩
            have AP : Hid (Ap (l.length + 1) W ∧ W.fl.length ≤ 200) := ⟨LW0.1, LW0.2.1⟩
            have LD : Hid (LP w4 wr wb l.length (fun V => V = dr 0 W)) := LW0.2.2
            clear LW0 LI
            go_wp2_with fail
            go_loopw [11] (fun t wr => ∃ j : Nat, j ≤ 200 ∧ t = .int .i64 j ∧ LP w4 wr wb l.length (fun V => V = dr j W)) (fun t _ => 200 - (intOf t).toNat)
            case atStart => exact ⟨0, by omega, rfl, LD.out⟩
            case round =>
              obtain ⟨j, hj, rfl, lj⟩ := hrel
              have LJ : Hid (LP w4 wr wb l.length (fun V => V = dr j W)) := lj
              clear lj LD
              by_cases hj2 : j < 200
              · have j1 : (j : Int) < 200 := by omega
                go_wp2_with fail
                refine (LJ.out.drop S4.out 0 (P' := fun V => V = dr (j + 1) W) (fun V e => by rw [e]; rfl)).mono ?_
                rintro e w6 ⟨⟨v6, rfl⟩, l6⟩
                have L6 : Hid (LP w4 w6 wb l.length (fun V => V = dr (j + 1) W)) := l6
                clear l6 LJ
                go_wp2_with fail
                exact ⟨⟨j + 1, by omega, by go_num, L6.out⟩, by simp [intOf]; omega⟩
              · obtain rfl : j = 200 := by omega
                rw [show ((200 : Nat) : Int) = 200 from rfl]
                have LU : Hid (LP w4 wr wb (l.length + 0) (Ud (l.length + 3) 0)) := LJ.out.imp (fun V e => by rw [e]; exact dr_ud AP.out.1 AP.out.2 (by omega))
                clear LJ AP
                go_wp2_with fail
                go_loopw [12] (fun t wr => ∃ j : Nat, j ≤ 2 ∧ t = .int .i64 j ∧ LP w4 wr wb (l.length + j) (Ud (l.length + 3) j)) (fun t _ => 2 - (intOf t).toNat)
                case atStart => exact ⟨0, by omega, rfl, LU.out⟩
                case round =>
                  obtain ⟨j, hj, rfl, lj⟩ := hrel
                  have LJ : Hid (LP w4 wr wb (l.length + j) (Ud (l.length + 3) j)) := lj
                  clear lj LU
                  by_cases hj2 : j < 2
                  · have j1 : (j : Int) < 2 := by omega
                    have HJ2 : Hid (j < 2) := hj2
                    go_wp2_with fail
                    refine (LJ.out.down S4.out j HJ2.out (P' := Dn (l.length + 3) j) (fun V u hl => u.down HJ2.out hl)).mono ?_
                    rintro e w6 ⟨⟨v6, rfl⟩, l6⟩
                    have L6 : Hid (LP w4 w6 wb (l.length + j) (Dn (l.length + 3) j)) := l6
                    clear l6 LJ
                    go_wp2_with fail
                    refine (L6.out.up S4.out (by omega) j HJ2.out (P' := Ud (l.length + 3) (j + 1)) (fun V d hI hr => ⟨d.dn, d.up HJ2.out (hI.mono (by have := HJ2.out; omega)) (by omega) hr⟩)).mono ?_
                    rintro e w7 ⟨rfl, l7⟩
                    have L7 : Hid (LP w4 w7 wb (l.length + j + 1) (Ud (l.length + 3) (j + 1))) := l7
                    clear l7 L6
                    go_wp2_with fail
                    exact ⟨⟨j + 1, by omega, by go_num, L7.out⟩, by simp [intOf]; omega⟩
                  · obtain rfl : j = 2 := by omega
                    rw [show ((2 : Nat) : Int) = 2 from rfl]
                    obtain ⟨eE, eL, eY, hB, LP0⟩ : ∃ e L Y, Bg2 e L Y ∧ LP w4 wr wb (l.length + 2 + 2 * 0) (PO e L Y f (2 * 0)) := by
                      obtain ⟨K, W, t, wd, ht, hI, u, e, hyk⟩ := LJ.out
                      obtain ⟨a1, a2, a3, a4, a5⟩ := u.both (by omega) HF2.out wd.ro
                      exact ⟨a1, a2, a3, a4, K, W, t, wd, ht, hI, a5, e, hyk⟩
                    have HB : Hid (Bg2 eE eL eY) := hB
                    have LI : Hid (LP w4 wr wb (l.length + 2 + 2 * 0) (PO eE eL eY f (2 * 0))) := LP0
                    clear LJ hB LP0
                    go_wp2_with fail
                    go_loopw [13, 14, 15] (fun t _ _ wr => ∃ i : Nat, i ≤ 24 ∧ t = .int .i64 i ∧ LP w4 wr wb (l.length + 2 + 2 * i) (PO eE eL eY f (2 * i))) (fun t _ _ _ => 24 - (intOf t).toNat)
                    case atStart => exact ⟨0, by omega, rfl, LI.out⟩
                    case round =>
                      obtain ⟨i, hi, rfl, li⟩ := hrel
                      have LI2 : Hid (LP w4 wr wb (l.length + 2 + 2 * i + 0) (PO eE eL eY f (2 * i + 0))) := li
                      clear li LI
                      by_cases hi2 : i < 24
                      · have i1 : (i : Int) < 24 := by omega
                        go_wp2_with fail
                        go_loopw [14, 15] (fun t _ wr => ∃ k : Nat, k ≤ 2 ∧ t = .int .i64 k ∧ LP w4 wr wb (l.length + 2 + 2 * i + k) (PO eE eL eY f (2 * i + k))) (fun t _ _ => 2 - (intOf t).toNat)
                        case atStart => exact ⟨0, by omega, rfl, LI2.out⟩
                        case round =>
                          obtain ⟨k, hk, rfl, lk⟩ := hrel
                          have LK : Hid (LP w4 wr wb (l.length + 2 + 2 * i + k) (PO eE eL eY f (2 * i + k))) := lk
                          clear lk LI2
                          by_cases hk2 : k < 2
                          · have k1 : (k : Int) < 2 := by omega
                            have HWH : Hid (who f (2 * i + k) < 2 ∧ ((f : Int) + (k : Int)) % 2 = (who f (2 * i + k) : Nat)) := by
                              have := HF2.out
                              unfold who
                              refine ⟨?_, ?_⟩ <;> split <;> omega
                            have hrem := HWH.out.2
                            have hf0 : (0 : Int) ≤ (f : Int) := by omega
                            have hf1 : (f : Int) < 2 := by have := HF2.out; omega
                            have hk0 : (0 : Int) ≤ (k : Int) := by omega
                            go_wp2_with fail
                            clear hrem hf0 hf1 hk0
                            refine (LK.out.tick S4.out (by omega) (who f (2 * i + k) : Nat) (P' := fun V => ∃ U, PO eE eL eY f (2 * i + k) U ∧ V = dl 0 (U.tcd ((who f (2 * i + k) : Nat) : Int))) (fun V p => ⟨(p.step HB.out HF2.out).1, V, p, rfl⟩)).mono ?_
                            rintro e w6 ⟨rfl, l6⟩
                            have L6 : Hid (LP w4 w6 wb (l.length + 2 + 2 * i + k + 1) (fun V => ∃ U, PO eE eL eY f (2 * i + k) U ∧ V = dl 0 (U.tcd ((who f (2 * i + k) : Nat) : Int)))) := l6
                            clear l6 LK
                            go_wp2_with fail
                            go_loopw [15] (fun t wr => ∃ d : Nat, d ≤ 8 ∧ t = .int .i64 d ∧ LP w4 wr wb (l.length + 2 + 2 * i + k + 1) (fun V => ∃ U, PO eE eL eY f (2 * i + k) U ∧ V = dl d (U.tcd ((who f (2 * i + k) : Nat) : Int)))) (fun t _ => 8 - (intOf t).toNat)
                            case atStart => exact ⟨0, by omega, rfl, L6.out⟩
                            case round =>
                              obtain ⟨d, hd, rfl, ld⟩ := hrel
                              have LD : Hid (LP w4 wr wb (l.length + 2 + 2 * i + k + 1) (fun V => ∃ U, PO eE eL eY f (2 * i + k) U ∧ V = dl d (U.tcd ((who f (2 * i + k) : Nat) : Int)))) := ld
                              clear ld L6
                              by_cases hd2 : d < 8
                              · have d1 : (d : Int) < 8 := by omega
                                go_wp2_with fail
                                refine (LD.out.dlv S4.out 0 (P' := fun V => ∃ U, PO eE eL eY f (2 * i + k) U ∧ V = dl (d + 1) (U.tcd ((who f (2 * i + k) : Nat) : Int))) (fun V p => by obtain ⟨U, pu, e⟩ := p; exact ⟨U, pu, by rw [e]; rfl⟩)).mono ?_
                                rintro e w7 ⟨⟨v7, rfl⟩, l7⟩
                                have L7 : Hid (LP w4 w7 wb (l.length + 2 + 2 * i + k + 1) (fun V => ∃ U, PO eE eL eY f (2 * i + k) U ∧ V = dl (d + 1) (U.tcd ((who f (2 * i + k) : Nat) : Int)))) := l7
                                clear l7 LD
                                go_wp2_with fail
                                exact ⟨⟨d + 1, by omega, by go_num, L7.out⟩, by simp [intOf]; omega⟩
                              · obtain rfl : d = 8 := by omega
                                rw [show ((8 : Nat) : Int) = 8 from rfl]
                                have LN : Hid (LP w4 wr wb (l.length + 2 + 2 * i + (k + 1)) (PO eE eL eY f (2 * i + (k + 1)))) := LD.out.imp (fun V p => by obtain ⟨U, pu, e⟩ := p; rw [e]; exact (pu.step HB.out HF2.out).2)
                                clear LD
                                go_wp2_with fail
                                exact ⟨⟨k + 1, by omega, by go_num, LN.out⟩, by simp [intOf]; omega⟩
                          · obtain rfl : k = 2 := by omega
                            have LN : Hid (LP w4 wr wb (l.length + 2 + 2 * (i + 1)) (PO eE eL eY f (2 * (i + 1)))) := LK.out
                            clear LK
                            go_wp2_with fail
                            exact ⟨⟨i + 1, by omega, by go_num, LN.out⟩, by simp [intOf]; omega⟩
                      · obtain rfl : i = 24 := by omega
                        obtain ⟨r0, r1, LQ, hcase⟩ : ∃ r0 r1 : Ro, LP w4 wr wb (l.length + 50) (fun V => (∃ x, V.nd 0 = some x ∧ x.ro = r0) ∧ (∃ y, V.nd 1 = some y ∧ y.ro = r1) ∧ V.he ≠ 0 ∧ ((r0.ac = true ∧ V.hn = 0 ∧ V.he = r0.ep) ∨ (r0.ac = false ∧ V.hn = 1 ∧ V.he = r1.ep))) ∧ ((r0.ac = true ∧ r1.ac = false) ∨ (r0.ac = false ∧ r1.ac = true)) := by
                          obtain ⟨K, W, t, wd, ht, hI, p, e, hyk⟩ := LI2.out
                          obtain ⟨g, x, y, hg, hx, hy, xa, ya, sn, se, s0⟩ := PO.fin HF2.out p
                          have : g = 0 ∨ g = 1 := by omega
                          rcases this with rfl | rfl
                          · exact ⟨x.ro, y.ro, ⟨K, W, t, wd, ht, hI, ⟨⟨x, hx, rfl⟩, ⟨y, hy, rfl⟩, s0, .inl ⟨xa, sn, se⟩⟩, e, hyk⟩, .inl ⟨xa, ya⟩⟩
                          · exact ⟨y.ro, x.ro, ⟨K, W, t, wd, ht, hI, ⟨⟨y, hy, rfl⟩, ⟨x, hx, rfl⟩, s0, .inr ⟨ya, sn, se⟩⟩, e, hyk⟩, .inr ⟨ya, xa⟩⟩
                        generalize hP : (fun V : Wo => (∃ x, V.nd 0 = some x ∧ x.ro = r0) ∧ (∃ y, V.nd 1 = some y ∧ y.ro = r1) ∧ V.he ≠ 0 ∧ ((r0.ac = true ∧ V.hn = 0 ∧ V.he = r0.ep) ∨ (r0.ac = false ∧ V.hn = 1 ∧ V.he = r1.ep))) = PZ at LQ
                        have HPZ : Hid ((∀ V, PZ V → ∃ x, V.nd 0 = some x ∧ x.ro = r0) ∧ (∀ V, PZ V → ∃ x, V.nd 1 = some x ∧ x.ro = r1) ∧ ∀ V, PZ V → V.he ≠ 0 ∧ ((r0.ac = true ∧ V.hn = 0 ∧ V.he = r0.ep) ∨ (r0.ac = false ∧ V.hn = 1 ∧ V.he = r1.ep))) := by
                          subst hP
                          exact ⟨fun V p => p.1, fun V p => p.2.1, fun V p => p.2.2⟩
                        have LZ : Hid (LP w4 wr wb (l.length + 50) PZ) := LQ
                        have HCS : Hid ((r0.ac = true ∧ r1.ac = false) ∨ (r0.ac = false ∧ r1.ac = true)) := hcase
                        clear hP LQ LI2 hcase
                        go_wp2_with fail
                        refine (LZ.out.node S4.out 0 (by omega) (R := fun x => x.ro = r0) HPZ.out.1).mono ?_
                        rintro e w6 ⟨⟨b0, q0, rfl, x0, c60, ro0, e0⟩, l6, _⟩
                        have R60 : Hid (Rol w6 q0 r0) := e0 ▸ ro0
                        have L6 : Hid (LP w4 w6 wb (l.length + 50) PZ) := l6
                        clear l6 LZ ro0 e0
                        go_wp2_with fail
                        refine (L6.out.node S4.out 1 (by omega) (R := fun x => x.ro = r1) HPZ.out.2.1).mono ?_
                        rintro e w7 ⟨⟨b1, q1, rfl, x1, c71, ro1, e1⟩, l7, b7⟩
                        have c70 := tk b7 c60
                        have R70 : Hid (Rol w7 q0 r0) := R60.out.below b7
                        have R71 : Hid (Rol w7 q1 r1) := e1 ▸ ro1
                        have L7 : Hid (LP w4 w7 wb (l.length + 50) PZ) := l7
                        clear l7 L6 ro1 e1 b7 c60 R60
                        rcases HCS.out with ⟨g0, g1⟩ | ⟨g0, g1⟩
                        · have A0 : Hid (∀ q, Calls Tryz.prog 15 #[.pointer (some ⟨q0, 0, none⟩)] (w7.drewN q) fun r w' => r = .returned (.bool true) ∧ w' = w7.drewN q) := fun q => by
                            have := active_any q0 r0 (w7.drewN q) (R70.out.below ⟨rfl, rfl, rfl, Nat.le_refl _, fun _ _ => rfl⟩)
                            rw [g0] at this
                            exact this
                          have A1 : Hid (∀ q, Calls Tryz.prog 15 #[.pointer (some ⟨q1, 0, none⟩)] (w7.drewN q) fun r w' => r = .returned (.bool false) ∧ w' = w7.drewN q) := fun q => by
                            have := active_any q1 r1 (w7.drewN q) (R71.out.below ⟨rfl, rfl, rfl, Nat.le_refl _, fun _ _ => rfl⟩)
                            rw [g1] at this
                            exact this
                          go_wp2_with fail
                          go_quiet ((first | (go_at_call 15; with_reducible exact Calls.quiet_of_same (A0.out _)) | (go_at_call 15; with_reducible exact Calls.quiet_of_same (A1.out _))))
                          go_wp2_with fail
                          have B8 : Hid (Below w7.heap.size w7 (w7.drewN nq)) := ⟨rfl, rfl, rfl, Nat.le_refl _, fun _ _ => rfl⟩
                          refine ((L7.out.below B8.out).switch (R := fun a b => (a = 0 ∧ b = r0.ep)) (fun V p => by
                            obtain ⟨h1, h2⟩ := HPZ.out.2.2 V p
                            refine ⟨h1, ?_⟩
                            rcases h2 with ⟨k1, k2, k3⟩ | ⟨k1, k2, k3⟩
                            · exact ⟨k2, k3⟩
                            · rw [g0] at k1; cases k1)).mono ?_
                          rintro e w8 ⟨⟨a8, e8, rfl, rfl, rfl⟩, l8, b8⟩
                          have BT : Hid (Below w.heap.size w w8) := t2 B4.out l8.bl
                          have c80 := tk b8 (tk B8.out c70)
                          have c81 := tk b8 (tk B8.out c71)
                          have R80 : Hid (Rol w8 q0 r0) := (R70.out.below B8.out).below b8
                          have R81 : Hid (Rol w8 q1 r1) := (R71.out.below B8.out).below b8
                          clear l8 b8 L7 c70 c71 A0 A1
                          go_wp2_with fail
                          refine (active_any q0 r0 w8 R80.out).mono ?_
                          rintro e w9 ⟨rfl, hw9⟩
                          obtain rfl := hw9.symm
                          clear hw9
                          rw [g0]
                          go_wp2_with fail
                          refine (epochR_any q0 r0 w8 R80.out).mono ?_
                          rintro e w9 ⟨rfl, hw9⟩
                          obtain rfl := hw9.symm
                          clear hw9
                          go_wp2_with fail
                          go_ret
                          exact ⟨by simp, BT.out⟩
                        · have A0 : Hid (∀ q, Calls Tryz.prog 15 #[.pointer (some ⟨q0, 0, none⟩)] (w7.drewN q) fun r w' => r = .returned (.bool false) ∧ w' = w7.drewN q) := fun q => by
                            have := active_any q0 r0 (w7.drewN q) (R70.out.below ⟨rfl, rfl, rfl, Nat.le_refl _, fun _ _ => rfl⟩)
                            rw [g0] at this
                            exact this
                          have A1 : Hid (∀ q, Calls Tryz.prog 15 #[.pointer (some ⟨q1, 0, none⟩)] (w7.drewN q) fun r w' => r = .returned (.bool true) ∧ w' = w7.drewN q) := fun q => by
                            have := active_any q1 r1 (w7.drewN q) (R71.out.below ⟨rfl, rfl, rfl, Nat.le_refl _, fun _ _ => rfl⟩)
                            rw [g1] at this
                            exact this
                          go_wp2_with fail
                          go_quiet ((first | (go_at_call 15; with_reducible exact Calls.quiet_of_same (A0.out _)) | (go_at_call 15; with_reducible exact Calls.quiet_of_same (A1.out _))))
                          go_wp2_with fail
                          have B8 : Hid (Below w7.heap.size w7 (w7.drewN nq)) := ⟨rfl, rfl, rfl, Nat.le_refl _, fun _ _ => rfl⟩
                          refine ((L7.out.below B8.out).switch (R := fun a b => (a = 1 ∧ b = r1.ep)) (fun V p => by
                            obtain ⟨h1, h2⟩ := HPZ.out.2.2 V p
                            refine ⟨h1, ?_⟩
                            rcases h2 with ⟨k1, k2, k3⟩ | ⟨k1, k2, k3⟩
                            · rw [g0] at k1; cases k1
                            · exact ⟨k2, k3⟩)).mono ?_
                          rintro e w8 ⟨⟨a8, e8, rfl, rfl, rfl⟩, l8, b8⟩
                          have BT : Hid (Below w.heap.size w w8) := t2 B4.out l8.bl
                          have c80 := tk b8 (tk B8.out c70)
                          have c81 := tk b8 (tk B8.out c71)
                          have R80 : Hid (Rol w8 q0 r0) := (R70.out.below B8.out).below b8
                          have R81 : Hid (Rol w8 q1 r1) := (R71.out.below B8.out).below b8
                          clear l8 b8 L7 c70 c71 A0 A1
                          go_wp2_with fail
                          refine (active_any q0 r0 w8 R80.out).mono ?_
                          rintro e w9 ⟨rfl, hw9⟩
                          obtain rfl := hw9.symm
                          clear hw9
                          rw [g0]
                          go_wp2_with fail
                          refine (epochR_any q1 r1 w8 R81.out).mono ?_
                          rintro e w9 ⟨rfl, hw9⟩
                          obtain rfl := hw9.symm
                          clear hw9
                          go_wp2_with fail
                          go_ret
                          exact ⟨by simp, BT.out⟩
end Go.Proofs.YtegihhjddnckgaaGreatDoor
