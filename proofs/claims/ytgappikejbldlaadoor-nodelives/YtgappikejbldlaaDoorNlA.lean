/-
  The law NodeLives: each time it is begun anew a node has another life, and no flows; its epochs rise over all of them.
-/
import Derived.Test.YtgappikejbldlaaDoorNoY
import Derived.Test.YtgappikejbldlaaDoorKt
namespace Go.Proofs.YtgappikejbldlaaDoor
open Go.RowKit

theorem newT_cells {w : World} {Z i : Nat} (h : CellsB w Z newT) (hi : i < 32) : w.cell? ⟨Z, i * 10 + 2, none⟩ = some (.int .i64 0) ∧ w.cell? ⟨Z, i * 10 + 1, none⟩ = some (.int .i64 0) := ⟨h.sl.at' hi (by omega), h.sl.at' hi (by omega)⟩
theorem Beg.tick {id ep life n j : Nat} {y : By} (h : Beg y n ep life) (hn : n ≤ 900) (he : ep ≤ 900) : ∃ n', n' ≤ n + 1 ∧ Beg (yQ id ep life y j) n' (epQ id ep j) life := by
  unfold yQ epQ
  by_cases h9 : j ≤ 9
  · rw [if_pos h9, if_pos h9]; exact ⟨n, by omega, h⟩
  · rw [if_neg h9, if_neg h9, nxN_eq]
    have := nxN_lt id ep
    have hl := h.hl
    obtain ⟨_, q, r⟩ := h.put (ep := nxN id ep) (li := life) (by omega) (by omega) (Nat.le_refl _) (by omega)
    exact ⟨n + 1, by omega, q, r, by omega, by omega, h.hl⟩
/-- what a life leaves: its bytes, begun i times. -/
structure Lv (w0 w : World) (b : Nat) (y : By) (n e i : Nat) : Prop where
  yy : Byt w b y
  g : Beg y n e i
  hn : n ≤ 2 * i
  he : e ≤ 2 * i
  hb : w0.heap.size ≤ b
  bl : Below w0.heap.size w0 w
theorem Lv.drewN {w0 w : World} {b : Nat} {y : By} {n e i : Nat} (h : Lv w0 w b y n e i) (m : Nat) : Lv w0 (w.drewN m) b y n e i := ⟨h.yy, h.g, h.hn, h.he, h.hb, ⟨h.bl.os, h.bl.tape, h.bl.output, h.bl.size, h.bl.block⟩⟩
set_option maxRecDepth 100000 in
set_option maxHeartbeats 8000000 in
theorem lives_any (id : Int) (v : Value) (l : List Int) (s : Nat → Addr) (w : World) (S : SeN w s) (L : IntsI w v l) :
    Calls Tryd.prog 4 #[.int .i64 id, v] w fun e w' => e = .returned (.bool true) ∧ Below w.heap.size w w' := by
  obtain ⟨p, cap, rfl, hat⟩ := L
  have HS : Hid (SeN w s) := S
  have HAT : Hid (∀ (i : Nat) x, l[i]? = some x → ∃ b o, p = some ⟨b, o, none⟩ ∧ w.cell? ⟨b, o + i, none⟩ = some (.int .i64 x) ∧ -9223372036854775808 ≤ x ∧ x ≤ 9223372036854775807) := hat
  clear S hat
  by_cases hlen : (0 ≤ id ∧ id ≤ 1) ∧ l.length ≤ 12
  · obtain ⟨⟨i0, i1⟩, hl⟩ := hlen
    obtain ⟨d, rfl⟩ : ∃ d : Nat, id = d := ⟨id.toNat, by omega⟩
    have HD : Hid (d < 2) := (by omega : d < 2)
    have HL : Hid (l.length ≤ 12) := hl
    have x0 : ¬ (d : Int) < 0 := by omega
    have x1 : ¬ 1 < (d : Int) := by omega
    have x4 : ¬ (12 : Int) < (l.length : Int) := by omega
    clear i0 i1 hl
    go_enter Tryd.func4, Tryd.ntmps4
    go_wp2_with fail
    refine (wakes_any s w HS.out).mono ?_
    rintro e w0 ⟨rfl, hb0⟩
    have B0 : Hid (Below w.heap.size w w0) := hb0
    clear hb0
    go_wp2_with fail
    refine (newBytes_any w0).mono ?_
    rintro e w1 ⟨⟨rfl, y1⟩, b1⟩
    have V1 : Hid (Lv w w1 w0.heap.size new0 0 0 0) := ⟨y1, Beg.zero, by omega, by omega, B0.out.size, t2 B0.out b1⟩
    clear y1 b1 B0
    generalize w0.heap.size = b at *
    clear x0 x1 x4
    go_wp2_with fail
    go_loopw [7, 8, 9, 10, 11, 12, 13, 14, 15] (fun ev t _ _ _ _ _ _ _ wr => ∃ (i e n : Nat) (y : By), i ≤ l.length ∧ t = .int .i64 i ∧ ev = .int .i64 e ∧ Lv w wr b y n e i) (fun _ t _ _ _ _ _ _ _ _ => l.length - (intOf t).toNat)
    case atStart => exact ⟨0, 0, 0, new0, by omega, rfl, rfl, V1.out⟩
    case round =>
      obtain ⟨i, e, n, y, hi, rfl, rfl, lv⟩ := hrel
      have VR : Hid (Lv w wr b y n e i) := lv
      clear lv V1
      have hl := HL.out
      by_cases hlt : i < l.length
      · obtain ⟨A, o, hp, hc, _, _⟩ := HAT.out i l[i] (List.getElem?_eq_getElem hlt)
        generalize l[i] = x at *
        subst hp
        have HC : Hid (w.cell? ⟨A, o + i, none⟩ = some (.int .i64 x)) := hc
        clear hc
        have i0 : (0 : Int) ≤ (i : Int) := by omega
        have i1 : (i : Int) < (l.length : Int) := by omega
        go_wp2_with fail
        refine (new_lq HS.out d b y (.slice none 0 0) [] VR.out.yy VR.out.hb VR.out.bl VR.out.g HD.out (Sl.nil _) (fun a n c e => by cases e) RulesOk.nil).mono ?_
        rintro r w2 ⟨k, rfl, hk, l2, _⟩
        have L2 : Hid (Lq w w2 k d e (i + 1) (yNew y) 0) := l2
        have BG : Hid (Beg (yNew y) (n + 1) e (i + 1)) := ⟨VR.out.g.new.2.1, VR.out.g.new.2.2, by have := VR.out.hn; omega, VR.out.g.he, by omega⟩
        have HK : Hid (k.yb = b) := hk
        have HV : Hid (n ≤ 2 * i ∧ e ≤ 2 * i ∧ w.heap.size ≤ b) := ⟨VR.out.hn, VR.out.he, VR.out.hb⟩
        clear l2 VR hk
        go_wp2_with fail
        refine (life_lq L2.out).mono ?_
        rintro r w3 ⟨rfl, hw⟩
        obtain rfl := hw.symm
        clear hw
        have c0 := L2.out.c0
        have hcast : ((i + 1 : Nat) : Int) = (i : Int) + 1 := by omega
        rw [hcast]
        go_wp2_with fail
        refine (active_lq L2.out false (by decide)).mono ?_
        rintro r w3 ⟨rfl, hw⟩
        obtain rfl := hw.symm
        clear hw
        go_wp2_with fail
        refine (epoch_lq L2.out).mono ?_
        rintro r w3 ⟨rfl, hw⟩
        obtain rfl := hw.symm
        clear hw
        rw [show epQ d e 0 = e from rfl]
        go_wp2_with fail
        refine (table_lq L2.out).mono ?_
        rintro r w3 ⟨⟨Z, rfl, cb⟩, l3⟩
        have L3 : Hid (Lq w w3 k d e (i + 1) (yNew y) 0) := l3
        have CB : Hid (CellsB w3 Z newT) := cb
        clear cb l3 c0 hcast L2
        go_wp2_with fail
        go_loopw [12] (fun t wz => ∃ q : Nat, q ≤ 32 ∧ t = .int .i64 q ∧ wz = w3) (fun t _ => 32 - (intOf t).toNat)
        case atStart => exact ⟨0, by omega, rfl, rfl⟩
        case round =>
          obtain ⟨q, hq, rfl, rfl⟩ := hrel
          by_cases hq32 : q < 32
          · have q0 : (0 : Int) ≤ (q : Int) := by omega
            have q1 : (q : Int) < 32 := by omega
            obtain ⟨e1, e2⟩ := newT_cells CB.out hq32
            go_wp2_with fail
            exact ⟨⟨q + 1, by omega, by go_num, by trivial⟩, by simp [intOf]; omega⟩
          · obtain rfl : q = 32 := by omega
            have hc := tk L3.out.bl HC.out
            have LV : Hid (Lv w wr b (yNew y) (n + 1) e (i + 1)) := ⟨HK.out ▸ L3.out.yb, BG.out, by have := HV.out; omega, by have := HV.out; omega, HV.out.2.2, L3.out.bl⟩
            by_cases hx : x < 0
            · go_wp2_with fail
              exact ⟨⟨i + 1, e, n + 1, yNew y, by omega, by go_num, rfl, LV.out⟩, by simp [intOf]; omega⟩
            · by_cases hx9 : 40 < x
              · go_wp2_with fail
                exact ⟨⟨i + 1, e, n + 1, yNew y, by omega, by go_num, rfl, LV.out⟩, by simp [intOf]; omega⟩
              · obtain ⟨X, rfl⟩ : ∃ X : Nat, x = X := ⟨x.toNat, by omega⟩
                go_wp2_with fail
                clear hc
                go_loopw [13, 14, 15] (fun t _ _ wz => ∃ j : Nat, j ≤ X ∧ t = .int .i64 j ∧ Lq w wz k d e (i + 1) (yNew y) j) (fun t _ _ _ => X - (intOf t).toNat)
                case atStart => exact ⟨0, by omega, rfl, L3.out⟩
                case round =>
                  obtain ⟨j, hj, rfl, lj⟩ := hrel
                  have LJ : Hid (Lq w wr k d e (i + 1) (yNew y) j) := lj
                  clear lj
                  have hc := tk LJ.out.bl HC.out
                  by_cases hjx : j < X
                  · have j1 : (j : Int) < (X : Int) := by omega
                    go_wp2_with fail
                    refine (tick_lq HS.out LJ.out BG.out (by omega)).mono ?_
                    rintro r w4 ⟨⟨v4, rfl⟩, l4, _⟩
                    have L4 : Hid (Lq w w4 k d e (i + 1) (yNew y) (j + 1)) := l4
                    clear l4 LJ hc
                    go_wp2_with fail
                    exact ⟨⟨j + 1, by omega, by go_num, L4.out⟩, by simp [intOf]; omega⟩
                  · obtain rfl : j = X := by omega
                    have c0 := LJ.out.c0
                    have hnx := nxN_lt d e
                    obtain ⟨n', hn', B'⟩ := BG.out.tick (id := d) (j := j) (by have := HV.out; omega) (by have := HV.out; omega)
                    have VJ : Hid (Lv w wr b (yQ d e (i + 1) (yNew y) j) n' (epQ d e j) (i + 1)) := ⟨HK.out ▸ LJ.out.yb, B', by have := HV.out; omega, by have := HV.out; unfold epQ; split <;> omega, HV.out.2.2, LJ.out.bl⟩
                    clear B'
                    by_cases h9 : j ≤ 9
                    · have hep : epQ d e j = e := by unfold epQ; rw [if_pos h9]
                      have AC : Hid (∀ q, Calls Tryd.prog 13 #[.pointer (some ⟨k.ro, 0, none⟩)] (wr.drewN q) fun r w' => r = .returned (.bool false) ∧ w' = wr.drewN q) := fun q => by
                        have := active_any k.ro (roQ d e j) (wr.drewN q) LJ.out.ro
                        rw [roQ_ac, show acQ j = false from decide_eq_false (by omega)] at this
                        exact this
                      have EC : Hid (∀ q, Calls Tryd.prog 14 #[.pointer (some ⟨k.ro, 0, none⟩)] (wr.drewN q) fun r w' => r = .returned (.int .i64 e) ∧ w' = wr.drewN q) := fun q => by
                        have := epochR_any k.ro (roQ d e j) (wr.drewN q) LJ.out.ro
                        rw [roQ_ep, hep] at this
                        exact this
                      have j9 : decide ((9 : Int) < (j : Int)) = false := decide_eq_false (by omega)
                      rw [hep] at VJ
                      go_wp2_with fail
                      go_quiet ((first | (go_at_call 13; exact Calls.quiet_of_same (AC.out _))))
                      go_wp2_with fail
                      refine (EC.out _).mono ?_
                      rintro r w5 ⟨rfl, hw5⟩
                      obtain rfl := hw5.symm
                      clear hw5
                      go_wp2_with fail
                      exact ⟨⟨i + 1, e, n', yQ d e (i + 1) (yNew y) j, by omega, by go_num, rfl, VJ.out.drewN _⟩, by simp [intOf]; omega⟩
                    · have hep : epQ d e j = nxN d e := by unfold epQ; rw [if_neg h9]
                      have AC : Hid (∀ q, Calls Tryd.prog 13 #[.pointer (some ⟨k.ro, 0, none⟩)] (wr.drewN q) fun r w' => r = .returned (.bool true) ∧ w' = wr.drewN q) := fun q => by
                        have := active_any k.ro (roQ d e j) (wr.drewN q) LJ.out.ro
                        rw [roQ_ac, show acQ j = true from decide_eq_true (by omega)] at this
                        exact this
                      have EC : Hid (∀ q, Calls Tryd.prog 14 #[.pointer (some ⟨k.ro, 0, none⟩)] (wr.drewN q) fun r w' => r = .returned (.int .i64 (nxN d e : Nat)) ∧ w' = wr.drewN q) := fun q => by
                        have := epochR_any k.ro (roQ d e j) (wr.drewN q) LJ.out.ro
                        rw [roQ_ep, hep] at this
                        exact this
                      have j9 : (9 : Int) < (j : Int) := by omega
                      have hle : decide (((nxN d e : Nat) : Int) ≤ (e : Int)) = false := decide_eq_false (by omega)
                      rw [hep] at VJ
                      go_wp2_with fail
                      go_quiet ((first | (go_at_call 13; exact Calls.quiet_of_same (AC.out _)) | (go_at_call 14; exact Calls.quiet_of_same (EC.out _))))
                      go_wp2_with fail
                      refine (EC.out _).mono ?_
                      rintro r w5 ⟨rfl, hw5⟩
                      obtain rfl := hw5.symm
                      clear hw5
                      go_wp2_with fail
                      exact ⟨⟨i + 1, nxN d e, n', yQ d e (i + 1) (yNew y) j, by omega, by go_num, rfl, VJ.out.drewN _⟩, by simp [intOf]; omega⟩
      · go_wp2_with fail
        go_ret
        exact ⟨rfl, VR.out.bl⟩
  · have HN : Hid (id < 0 ∨ 1 < id ∨ (12 : Int) < (l.length : Int)) := (by omega : id < 0 ∨ 1 < id ∨ (12 : Int) < (l.length : Int))
    clear hlen
    go_enter Tryd.func4, Tryd.ntmps4
    go_wp2_with fail
    refine (wakes_any s w HS.out).mono ?_
    rintro e w0 ⟨rfl, hb0⟩
    have B0 : Hid (Below w.heap.size w w0) := hb0
    clear hb0
    by_cases x0 : id < 0
    · go_wp2_with fail
      go_ret
      exact ⟨rfl, B0.out⟩
    · by_cases x1 : 1 < id
      · go_wp2_with fail
        go_ret
        exact ⟨rfl, B0.out⟩
      · have x2 : (12 : Int) < (l.length : Int) := by have := HN.out; omega
        go_wp2_with fail
        go_ret
        exact ⟨rfl, B0.out⟩
end Go.Proofs.YtgappikejbldlaaDoor
