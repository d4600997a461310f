/-
  The law WorldApart: whatever happens, epochs of claims rise at each node, are of its parity, and none is claimed twice; ports are of both halves; the switch knows a claim.
-/
import Derived.Test.YtlbnanhjfmmmbaaGreatDoorWaH
import Derived.Test.YtlbnanhjfmmmbaaGreatDoorWoNd
import Derived.Test.YtlbnanhjfmmmbaaGreatDoorKn
import Derived.Test.YtlbnanhjfmmmbaaGreatDoorNoTb
import Derived.Deep.RegionHeld3
namespace Go.Proofs.YtlbnanhjfmmmbaaGreatDoor
open Go.RowKit

/-- the last claims of both nodes, ahead of those that are to come. -/
def Lst (l0 l1 : Int) (l : List (Int × Int)) : Prop := (∀ e ∈ l, (e.1 = 0 ∨ e.1 = 1) ∧ e.2 % 2 = e.1 ∧ 0 < e.2 ∧ (e.1 = 0 → l0 < e.2) ∧ (e.1 = 1 → l1 < e.2) ∧ e.2 ≤ 1000000) ∧ l.Pairwise (fun a b => a.1 = b.1 → a.2 < b.2)
theorem Lst.step {l0 l1 : Int} {e : Int × Int} {l : List (Int × Int)} (h : Lst l0 l1 (e :: l)) : Lst (if e.1 = 0 then e.2 else l0) (if e.1 = 1 then e.2 else l1) l := by
  obtain ⟨h1, h2⟩ := h
  obtain ⟨h3, h4⟩ := List.pairwise_cons.1 h2
  refine ⟨fun a ha => ?_, h4⟩
  obtain ⟨a1, a2, a3, a4, a5, a6⟩ := h1 a (by simp [ha])
  have hr := h3 a ha
  refine ⟨a1, a2, a3, fun e0 => ?_, fun e1 => ?_, a6⟩
  · split
    · rename_i q; exact hr (by omega)
    · exact a4 e0
  · split
    · rename_i q; exact hr (by omega)
    · exact a5 e1
theorem Ap.lst {q : Nat} {W : Wo} (h : Ap q W) (hI : In q W) (hq : q ≤ 1000) : Lst 0 0 W.ev := by
  refine ⟨fun e he => ?_, h.pw⟩
  obtain ⟨h1, h2, h3, h4⟩ := h.ev e he
  refine ⟨h1, h2, h3, fun _ => h3, fun _ => h3, ?_⟩
  have hb : W.dur e.1.toNat ≤ 2000 := by
    unfold Wo.dur
    cases hn : W.nd e.1.toNat with
    | some x =>
      rw [byt_up hn]
      have := (hI.up _ x hn).y.e
      omega
    | none =>
      rw [byt_dn hn]
      have := (hI.dn e.1.toNat (by omega) hn).e
      omega
  omega
theorem two_set {w : World} {Z : Nat} {a b : Int} (h : w.heap[Z]? = some (.cells #[.int .i64 a, .int .i64 b] 3 (0, 0))) (x : Int) : (w.setCell ⟨Z, 0, none⟩ (.int .i64 x)).heap[Z]? = some (.cells #[.int .i64 x, .int .i64 b] 3 (0, 0)) ∧ (w.setCell ⟨Z, 1, none⟩ (.int .i64 x)).heap[Z]? = some (.cells #[.int .i64 a, .int .i64 x] 3 (0, 0)) :=
  ⟨(heap_setCell_same w Z 0 _ _ (.int .i64 x) h).trans rfl, (heap_setCell_same w Z 1 _ _ (.int .i64 x) h).trans rfl⟩
/-- a node of a world that goes through steps. -/
theorem LA.node {w1 wr : World} {wb q : Nat} {P : Nat → Wo → Prop} {s : Nat → Addr} (S : SeM w1 s) (h : LA w1 wr wb q P) (i : Nat) (hi : i < 2) :
    Calls Tryz.prog 9 #[.pointer (some ⟨wb, 0, none⟩), .int .i64 i] wr fun e w' => ((∃ W k y m n, e = .returned (.tuple #[.pointer (some ⟨k.nd, 0, none⟩), .nilIface]) ∧ Nd w1 w' k y m n ∧ P q W ∧ W.nd i = some y) ∨ (∃ a, e = .returned (.tuple #[.pointer none, .iface 212 (.pointer (some a))]))) ∧ LA w1 w' wb q P := by
  have h' := h
  obtain ⟨K, W, t, wd, ht, hI, hp, rfl, hy⟩ := h
  refine (node_wd S wd i).mono ?_
  rintro e w' ⟨hc, hb⟩
  refine ⟨?_, h'.below hb⟩
  rcases hc with ⟨j, y, k, ej, hj, hn, hk, rfl⟩ | ⟨e1, _, rfl⟩
  · obtain rfl : i = j := by omega
    obtain ⟨k2, m, n, hk2, nd, _⟩ := (wd.below hb).up hi hn
    rw [hk] at hk2
    cases hk2
    exact .inl ⟨W, k, y, m, n, rfl, nd, hp, hn⟩
  · exact .inr ⟨_, rfl⟩
set_option maxRecDepth 100000 in
set_option maxHeartbeats 8000000 in
theorem apart_law (v0 : Value) (rl : List Rl) (v1 : Value) (l : List Sp) (s : Nat → Addr) (w : World) (S : SeM w s) (R : Sl w v0 rl) (L : SpsI w v1 l) :
    Calls Tryz.prog 3 #[v0, v1] w fun e w' => e = .returned (.bool true) ∧ Below w.heap.size w w' := by
  obtain ⟨rp, rc, rfl, _⟩ := R.open
  obtain ⟨p, cap, rfl, hmx, hl⟩ := L
  have HS : Hid (SeM w s) := S
  have HR : Hid (Sl w (.slice rp rl.length rc) rl) := R
  have HL : Hid (SpsI w (.slice p l.length cap) l) := ⟨p, cap, rfl, hmx, hl⟩
  clear S R hl hmx
  go_enter Tryz.func3, Tryz.ntmps3
  go_wp2_with fail
  refine (born_any HS.out).mono ?_
  rintro e w2 ⟨rfl, b2⟩
  have B2 : Hid (Below w.heap.size w w2) := b2
  clear b2
  by_cases h30 : (30 : Int) < (rl.length : Int)
  · go_wp2_with fail
    go_ret
    exact ⟨rfl, B2.out⟩
  · go_wp2_with fail
    have HF := fit_any (.slice p l.length cap) l 400 w2 (HL.out.below B2.out)
    refine HF.mono ?_
    clear HF
    rintro e w3 ⟨⟨b, rfl, hb⟩, rfl⟩
    cases b
    · go_wp2_with fail
      go_ret
      exact ⟨rfl, B2.out⟩
    · have h30d : decide ((30 : Int) < (rl.length : Int)) = false := decide_eq_false (by omega)
      simp only [h30d]
      have HRL : Hid (rl.length ≤ 1000) := by show rl.length ≤ 1000; omega
      clear h30d h30
      have HFIT : Hid (l.length ≤ 400 ∧ ∀ x ∈ l, x.ru.length ≤ 30) := hb rfl
      clear hb
      go_wp2_with fail
      refine (own_at _ rl w3 (HR.out.below B2.out) HRL.out).mono ?_
      rintro e w4 ⟨⟨v4, rfl, s4, a4⟩, b4⟩
      have B4 : Hid (Below w.heap.size w w4) := t2 B2.out b4
      have S4 : Hid (SeM w4 s) := HS.out.below B4.out
      have R4 : Hid (Sl w4 v4 rl ∧ ∀ a n c, v4 = .slice (some a) n c → a.block < w4.heap.size) := ⟨s4, fun a n c e => (a4 a n c e).2⟩
      clear s4 a4 b4
      go_wp2_with fail
      refine (new_wd S4.out v4 rl R4.out.1 R4.out.2 HRL.out).mono ?_
      rintro e w5 hcase
      rcases hcase with ⟨hok, K, rfl, wd, hyk⟩ | ⟨hno, ⟨v', rfl, hch⟩, hb5⟩
      rotate_left
      · obtain ⟨e1, e2, rfl⟩ := chk_iface hno hch
        have B5 : Hid (Below w.heap.size w w5) := t2 B4.out hb5
        clear hb5 hch
        go_wp2_with fail
        go_ret
        exact ⟨rfl, B5.out⟩
      · have LA0 : Hid (LA w4 w5 K.wb 0 PA) := ⟨K, Wo.born rl, 0, wd, Nat.le_refl _, In.born hok, (Ap.born rl).mono (by omega), rfl, hyk⟩
        clear wd hyk hok
        generalize K.wb = wb at *
        clear K
        have L4 : Hid (SpsI w4 (.slice p l.length cap) l) := HL.out.below B4.out
        have hl400 : (l.length : Int) ≤ 400 := by have := HFIT.out.1; omega
        go_wp2_with fail
        go_loopw [8, 9, 10, 11, 12, 13, 14] (fun t8 _ _ _ _ _ _ wr => ∃ i : Nat, i ≤ l.length ∧ t8 = .int .i64 i ∧ LA w4 wr wb i PA) (fun t8 _ _ _ _ _ _ _ => l.length - (intOf t8).toNat)
        case atStart => exact ⟨0, by omega, rfl, LA0.out⟩
        case round =>
          obtain ⟨i, hi, rfl, li⟩ := hrel
          have LI : Hid (LA w4 wr wb i PA) := li
          clear li LA0
          by_cases hlt : i < l.length
          · have i0 : (0 : Int) ≤ (i : Int) := by omega
            have i1 : (i : Int) < (l.length : Int) := by omega
            obtain ⟨x, hx⟩ : ∃ x, l[i]? = some x := ⟨l[i], List.getElem?_eq_getElem hlt⟩
            obtain ⟨_, _, e0, _, hc⟩ := L4.out
            cases e0
            obtain ⟨ok, b, o, rfl, hd⟩ := hc i x hx
            have HX : Hid (SpOk w4 x ∧ x.ru.length ≤ 30) := ⟨ok, HFIT.out.2 x (List.mem_of_getElem? hx)⟩
            have cc : ∀ (j : Nat) u, (spC x)[j]? = some u → wr.cell? ⟨b, o + i * 10 + j, none⟩ = some u := fun j u hu => tk LI.out.bl (hd j u hu)
            have c0 := cc 0 (.string x.kd) rfl
            have c1 := cc 1 (.int .i64 x.s) rfl
            have c2 := cc 2 (.int .i64 x.n) rfl
            have c3 := cc 3 (.int .i64 x.p.pr) rfl
            have c4 := cc 4 (.int .i64 x.p.a1) rfl
            have c5 := cc 5 (.int .i64 x.p.p1) rfl
            have c6 := cc 6 (.int .i64 x.p.a2) rfl
            have c7 := cc 7 (.int .i64 x.p.p2) rfl
            have c8 := cc 8 (.int .i64 x.p.fl) rfl
            have c9 := cc 9 x.rv rfl
            rw [Nat.add_zero] at c0
            clear ok hc hd cc hx
            go_wp2_with fail
            refine (LI.out.act S4.out (by omega) x HX.out.1 HX.out.2 (PA.act i (by omega))).mono ?_
            rintro e w6 ⟨rfl, l6⟩
            have L6 : Hid (LA w4 w6 wb (i + 1) PA) := l6
            clear l6 LI HX c0 c1 c2 c3 c4 c5 c6 c7 c8 c9
            go_wp2_with fail
            go_loopw [9, 10, 11, 12, 13, 14] (fun t9 _ _ _ _ _ wr => ∃ k : Nat, k ≤ 2 ∧ t9 = .int .i64 k ∧ LA w4 wr wb (i + 1) PA) (fun t9 _ _ _ _ _ _ => 2 - (intOf t9).toNat)
            case atStart => exact ⟨0, by omega, rfl, L6.out⟩
            case round =>
              obtain ⟨k, hk, rfl, lk⟩ := hrel
              have LK : Hid (LA w4 wr wb (i + 1) PA) := lk
              clear lk L6
              by_cases hk2 : k < 2
              · have k1 : (k : Int) < 2 := by omega
                by_cases h5 : (i : Int) % 5 = 0
                · go_wp2_with fail
                  refine (LK.out.node S4.out k hk2).mono ?_
                  rintro e w7 ⟨hc, l7⟩
                  have L7 : Hid (LA w4 w7 wb (i + 1) PA) := l7
                  clear l7 LK
                  rcases hc with ⟨W, kb, y, m, n, rfl, nd, pw, hy⟩ | ⟨a, rfl⟩
                  · have ND : Hid (Nd w4 w7 kb y m n) := nd
                    have PT : Hid (Pt y.T) := (pw.nd k y hy).2.T
                    clear nd pw hy
                    go_wp2_with fail
                    refine (table_nd ND.out).mono ?_
                    rintro e w8 ⟨⟨Z, rfl, cb, hz⟩, b8⟩
                    have CB : Hid (CellsB w8 Z y.T) := cb
                    have L8 : Hid (LA w4 w8 wb (i + 1) PA) := L7.out.below b8
                    clear cb hz b8 L7
                    go_wp2_with fail
                    go_loop [13, 14] (fun t13 _ => ∃ j : Nat, j ≤ 32 ∧ t13 = .int .i64 j) (fun t13 _ => 32 - (intOf t13).toNat)
                    case atStart => exact ⟨0, by omega, rfl⟩
                    case round =>
                      obtain ⟨j, hj, rfl⟩ := hrel
                      by_cases hj2 : j < 32
                      · have j0 : (0 : Int) ≤ (j : Int) := by omega
                        have j1 : (j : Int) < 32 := by omega
                        have d7 : w8.cell? ⟨Z, j * 10 + 7, none⟩ = some (.int .i64 (y.T j).po) := CB.out.at' hj2 (by omega)
                        have d2 : w8.cell? ⟨Z, j * 10 + 2, none⟩ = some (.int .i64 (y.T j).pr) := CB.out.at' hj2 (by omega)
                        have hp := PT.out j
                        by_cases hpr : (y.T j).pr = 0
                        · rw [hpr] at d2
                          clear hp
                          go_wp2_with fail
                          exact ⟨⟨j + 1, by omega, by go_num⟩, by simp [intOf]; omega⟩
                        · have h1 := (hp hpr).1
                          have h2 := (hp hpr).2
                          have h3 : ((y.T j).pr != 0) = true := by simpa using hpr
                          clear hp
                          go_wp2_with fail
                          exact ⟨⟨j + 1, by omega, by go_num⟩, by simp [intOf]; omega⟩
                      · obtain rfl : j = 32 := by omega
                        go_wp2_with fail
                        exact ⟨⟨k + 1, by omega, by go_num, L8.out⟩, by simp [intOf]; omega⟩
                  · go_wp2_with fail
                    exact ⟨⟨k + 1, by omega, by go_num, L7.out⟩, by simp [intOf]; omega⟩
                · go_wp2_with fail
                  exact ⟨⟨i + 1, by omega, by go_num, LK.out⟩, by simp [intOf]; omega⟩
              · obtain rfl : k = 2 := by omega
                go_wp2_with fail
                exact ⟨⟨i + 1, by omega, by go_num, LK.out⟩, by simp [intOf]; omega⟩
          · obtain rfl : i = l.length := by omega
            obtain ⟨K, W, t, wd, ht, hI, ap, rfl, hyk⟩ := LI.out
            have WD : Hid (Wd w4 wr K W t) := wd
            have AP : Hid (Ap (l.length + 1) W) := ap
            have HI : Hid (In (l.length + 1) W) := hI
            clear wd ap hI hyk ht
            go_wp2_with fail
            refine (events_wd WD.out).mono ?_
            rintro e w6 ⟨⟨v6, rfl, own6⟩, b6⟩
            obtain ⟨ep, ec, rfl, hcl⟩ := own_evs own6
            have HC6 : Hid (∀ (j : Nat) x, W.ev[j]? = some x → ∃ g, ep = some ⟨g, 0, none⟩ ∧ wr.heap.size ≤ g ∧ w6.cell? ⟨g, j * 2, none⟩ = some (.int .i64 x.1) ∧ w6.cell? ⟨g, j * 2 + 1, none⟩ = some (.int .i64 x.2)) := hcl
            have W6 : Hid (Wd w4 w6 K W t) := WD.out.below b6
            clear hcl own6 b6
            go_wp2_with fail
            have HZ7 : Hid ((w6.alloc (.cells #[.int .i64 0, .int .i64 0] 3)).heap[w6.heap.size]? = some (.cells #[.int .i64 0, .int .i64 0] 3 (0, 0))) := heap_alloc_new _ _
            have W7 : Hid (Wd w4 (w6.alloc (.cells #[.int .i64 0, .int .i64 0] 3)) K W t) := W6.out.below (aB _ _)
            have HT9 : Hid (K.tag w6.heap.size = 9 ∧ w4.heap.size ≤ w6.heap.size) := ⟨W6.out.al _ (Nat.le_refl _), W6.out.bl.size⟩
            have HC7 : Hid (∀ (j : Nat) x, W.ev[j]? = some x → ∃ g, ep = some ⟨g, 0, none⟩ ∧ g ≠ w6.heap.size ∧ (w6.alloc (.cells #[.int .i64 0, .int .i64 0] 3)).cell? ⟨g, j * 2, none⟩ = some (.int .i64 x.1) ∧ (w6.alloc (.cells #[.int .i64 0, .int .i64 0] 3)).cell? ⟨g, j * 2 + 1, none⟩ = some (.int .i64 x.2)) := fun j x hx => by
              obtain ⟨g, e1, _, e3, e4⟩ := HC6.out j x hx
              have hg : g < w6.heap.size := tlt e3
              exact ⟨g, e1, by omega, tk (aB _ _) e3, tk (aB _ _) e4⟩
            generalize w6.alloc (.cells #[.int .i64 0, .int .i64 0] 3) = w7 at *
            generalize w6.heap.size = Z at *
            have LST : Hid (Lst 0 0 W.ev) := AP.out.lst HI.out (by omega)
            have hev : (W.ev.length : Int) ≤ 1000 := by have := W7.out.ev.le; omega
            clear HC6 W6 WD LI
            go_loopw [17] (fun t17 wr => ∃ i : Nat, i ≤ W.ev.length ∧ t17 = .int .i64 i ∧ ∃ l0 l1 : Int, wr.heap[Z]? = some (.cells #[.int .i64 l0, .int .i64 l1] 3 (0, 0)) ∧ Lst l0 l1 (W.ev.drop i) ∧ Wd w4 wr K W t ∧ Chg Z w7 wr) (fun t17 _ => W.ev.length - (intOf t17).toNat)
            case atStart => exact ⟨0, by omega, rfl, 0, 0, HZ7.out, LST.out, W7.out, Chg.refl _ _⟩
            case round =>
              obtain ⟨i, hi, rfl, l0, l1, hz, hlst, wd, cg⟩ := hrel
              have HZ : Hid (wr.heap[Z]? = some (.cells #[.int .i64 l0, .int .i64 l1] 3 (0, 0))) := hz
              have HLS : Hid (Lst l0 l1 (W.ev.drop i)) := hlst
              have WR : Hid (Wd w4 wr K W t) := wd
              have CG : Hid (Chg Z w7 wr) := cg
              clear hz hlst wd cg HZ7 LST W7
              by_cases hlt : i < W.ev.length
              · have i0 : (0 : Int) ≤ (i : Int) := by omega
                have i1 : (i : Int) < (W.ev.length : Int) := by omega
                obtain ⟨e, he⟩ : ∃ e, W.ev[i]? = some e := ⟨W.ev[i], List.getElem?_eq_getElem hlt⟩
                obtain ⟨g, rfl, hgZ, q0, q1⟩ := HC7.out i e he
                have r0 := CG.out.keeps (a := ⟨g, i * 2, none⟩) hgZ q0
                have r1 := CG.out.keeps (a := ⟨g, i * 2 + 1, none⟩) hgZ q1
                have z0 : wr.cell? ⟨Z, 0, none⟩ = some (.int .i64 l0) := by rw [cell_of_row _ _ _ _ _ _ HZ.out]; rfl
                have z1 : wr.cell? ⟨Z, 1, none⟩ = some (.int .i64 l1) := by rw [cell_of_row _ _ _ _ _ _ HZ.out]; rfl
                have f0 : wr.frozen? ⟨Z, 0, none⟩ = false := frozen_of_row _ _ _ _ _ HZ.out
                have f1 : wr.frozen? ⟨Z, 1, none⟩ = false := frozen_of_row _ _ _ _ _ HZ.out
                have hd : W.ev.drop i = e :: W.ev.drop (i + 1) := by
                  rw [List.drop_eq_getElem_cons hlt]
                  congr 1
                  have := List.getElem?_eq_getElem hlt
                  rw [he] at this
                  exact (Option.some.inj this).symm
                have hl2 := HLS.out
                rw [hd] at hl2
                obtain ⟨a1, a2, a3, a4, a5, a6⟩ := hl2.1 e (by simp)
                have HNX : Hid (Lst (if e.1 = 0 then e.2 else l0) (if e.1 = 1 then e.2 else l1) (W.ev.drop (i + 1))) := hl2.step
                obtain ⟨a, b⟩ := e
                simp only at a1 a2 a3 a4 a5 a6 r0 r1 q0 q1
                have HGZ : Hid (g ≠ Z) := hgZ
                clear q0 q1 hd hl2 he HLS hgZ
                rcases a1 with rfl | rfl
                · have a7 := a4 rfl
                  clear a4 a5
                  go_wp2_with fail
                  go_quiet (fail)
                  go_wp2_with fail
                  go_region
                  go_wp2_with fail
                  have B9 : Below wr.heap.size wr (wr.drewN (nq + 1)) := ⟨rfl, rfl, rfl, Nat.le_refl _, fun _ _ => rfl⟩
                  have hz9 : (wr.drewN (nq + 1)).heap[Z]? = some (.cells #[.int .i64 l0, .int .i64 l1] 3 (0, 0)) := by rw [B9.block Z (tlt z0)]; exact HZ.out
                  have g9 : Chg Z (wr.drewN (nq + 1)) ((wr.drewN (nq + 1)).setCell ⟨Z, 0, none⟩ (.int .i64 b)) := Chg.set _ _ _ _
                  refine ⟨⟨i + 1, by omega, by go_num, b, l1, (two_set hz9 b).1, HNX.out, (WR.out.below B9).fresh HT9.out.1 HT9.out.2 g9, (CG.out.then B9).trans g9⟩, by simp [intOf]; omega⟩
                · have a7 := a5 rfl
                  clear a4 a5
                  go_wp2_with fail
                  go_quiet (fail)
                  go_wp2_with fail
                  go_region
                  go_wp2_with fail
                  have B9 : Below wr.heap.size wr (wr.drewN (nq + 1)) := ⟨rfl, rfl, rfl, Nat.le_refl _, fun _ _ => rfl⟩
                  have hz9 : (wr.drewN (nq + 1)).heap[Z]? = some (.cells #[.int .i64 l0, .int .i64 l1] 3 (0, 0)) := by rw [B9.block Z (tlt z0)]; exact HZ.out
                  have g9 : Chg Z (wr.drewN (nq + 1)) ((wr.drewN (nq + 1)).setCell ⟨Z, 1, none⟩ (.int .i64 b)) := Chg.set _ _ _ _
                  refine ⟨⟨i + 1, by omega, by go_num, l0, b, (two_set hz9 b).2, HNX.out, (WR.out.below B9).fresh HT9.out.1 HT9.out.2 g9, (CG.out.then B9).trans g9⟩, by simp [intOf]; omega⟩
              · obtain rfl : i = W.ev.length := by omega
                go_wp2_with fail
                refine (switch_any WR.out.wb).mono ?_
                rintro e w8 ⟨rfl, b8⟩
                have W8 : Hid (Below w.heap.size w w8) := t2 B4.out (WR.out.below b8).bl
                have HC8 : Hid (∀ (j : Nat) x, W.ev[j]? = some x → ∃ g, ep = some ⟨g, 0, none⟩ ∧ w8.cell? ⟨g, j * 2, none⟩ = some (.int .i64 x.1) ∧ w8.cell? ⟨g, j * 2 + 1, none⟩ = some (.int .i64 x.2)) := fun j x hx => by
                  obtain ⟨g, e1, e2, e3, e4⟩ := HC7.out j x hx
                  exact ⟨g, e1, tk b8 (CG.out.keeps (a := ⟨g, j * 2, none⟩) e2 e3), tk b8 (CG.out.keeps (a := ⟨g, j * 2 + 1, none⟩) e2 e4)⟩
                clear b8 HC7 HLS HZ
                by_cases h0 : W.he = 0
                · rw [if_pos h0]
                  clear h0
                  go_wp2_with fail
                  go_ret
                  exact ⟨rfl, W8.out⟩
                · have HSW : Hid ((W.hn, W.he) ∈ W.ev) := AP.out.sw h0
                  have hn0 : (0 : Int) ≤ W.hn := by have := (AP.out.ev _ HSW.out).1; omega
                  rw [if_neg h0]
                  clear h0
                  go_wp2_with fail
                  go_loop [20] (fun t20 => ∃ i : Nat, i ≤ W.ev.length ∧ t20 = .int .i64 i ∧ (W.hn, W.he) ∈ W.ev.drop i) (fun t20 => W.ev.length - (intOf t20).toNat)
                  case atStart => exact ⟨0, by omega, rfl, HSW.out⟩
                  case round =>
                    obtain ⟨i, hi, rfl, hin⟩ := hrel
                    have HIN : Hid ((W.hn, W.he) ∈ W.ev.drop i) := hin
                    clear hin HSW
                    by_cases hlt : i < W.ev.length
                    · have i0 : (0 : Int) ≤ (i : Int) := by omega
                      have i1 : (i : Int) < (W.ev.length : Int) := by omega
                      obtain ⟨e, he⟩ : ∃ e, W.ev[i]? = some e := ⟨W.ev[i], List.getElem?_eq_getElem hlt⟩
                      obtain ⟨g, rfl, r0, r1⟩ := HC8.out i e he
                      have HD : Hid (W.ev.drop i = e :: W.ev.drop (i + 1)) := by
                        show W.ev.drop i = e :: W.ev.drop (i + 1)
                        rw [List.drop_eq_getElem_cons hlt]
                        congr 1
                        have := List.getElem?_eq_getElem hlt
                        rw [he] at this
                        exact (Option.some.inj this).symm
                      clear he
                      by_cases q0 : e.1 = W.hn
                      · by_cases q1 : e.2 = W.he
                        · rw [q0] at r0
                          rw [q1] at r1
                          clear q0 q1
                          go_wp2_with fail
                          go_ret
                          exact ⟨rfl, W8.out⟩
                        · rw [q0] at r0
                          have q2 : (e.2 == W.he) = false := beq_eq_false_iff_ne.2 q1
                          have HNX : Hid ((W.hn, W.he) ∈ W.ev.drop (i + 1)) := by
                            have := HIN.out
                            rw [HD.out] at this
                            rcases List.mem_cons.1 this with e1 | e1
                            · exact absurd (by rw [← e1]) q1
                            · exact e1
                          clear q0 q1
                          go_wp2_with fail
                          exact ⟨⟨i + 1, by omega, by go_num, HNX.out⟩, by simp [intOf]; omega⟩
                      · have q2 : (e.1 == W.hn) = false := beq_eq_false_iff_ne.2 q0
                        have HNX : Hid ((W.hn, W.he) ∈ W.ev.drop (i + 1)) := by
                          have := HIN.out
                          rw [HD.out] at this
                          rcases List.mem_cons.1 this with e1 | e1
                          · exact absurd (by rw [← e1]) q0
                          · exact e1
                        clear q0
                        go_wp2_with fail
                        exact ⟨⟨i + 1, by omega, by go_num, HNX.out⟩, by simp [intOf]; omega⟩
                    · have := HIN.out
                      rw [List.drop_eq_nil_of_le (by omega)] at this
                      simp at this
end Go.Proofs.YtlbnanhjfmmmbaaGreatDoor
