/-
  The law RoleSilence: a standby that is silent for HoldOff ticks and one more should claim, not earlier.
-/
import Derived.Test.YtneoflcfhdjcoabDoorRoB
import Derived.Test.YtneoflcfhdjcoabDoorIntO
namespace Go.Proofs.YtneoflcfhdjcoabDoor
open Go.RowKit

/-- a standby. -/
def sby (nd ep k : Int) : Ro := ⟨nd, ep, k, false⟩
theorem sby_tick (nd ep k : Int) (h : k ≤ 9) : (sby nd ep k).tick = sby nd ep (k + 1) ∧ (sby nd ep k).rings = decide (9 < k + 1) := by
  constructor
  · show (⟨nd, ep, if k ≤ 9 then k + 1 else k, false⟩ : Ro) = ⟨nd, ep, k + 1, false⟩
    rw [if_pos h]
  · show decide (9 < (if k ≤ 9 then k + 1 else k)) = _
    rw [if_pos h]
theorem sby_hear (nd ep k : Int) (h0 : 0 ≤ ep) (h1 : ep ≤ 1073741824) : (sby nd ep k).hear ep = sby nd ep 0 ∧ (sby nd ep k).falls ep = false := by
  have h : (sby nd ep k).heard ep = true := by
    show (isEpR ep && !decide (ep < ep)) = true
    rw [isEpR_iff.2 ⟨h0, h1⟩]; simp
  constructor
  · unfold Ro.hear
    rw [h]
    rfl
  · unfold Ro.falls
    rw [h]
    rfl
theorem tick_sby {w0 w : World} {b : Nat} {nd ep k : Int} (h : Rl1 w0 w b (sby nd ep k)) (hk : k ≤ 9) :
    Calls Tryd.prog 79 #[.pointer (some ⟨b, 0, none⟩)] w fun e w' => e = .returned (.bool (decide (9 < k + 1))) ∧ Rl1 w0 w' b (sby nd ep (k + 1)) := by
  have := tick_r1 h
  rw [(sby_tick nd ep k hk).1, (sby_tick nd ep k hk).2] at this
  exact this
theorem hear_sby {w0 w : World} {b : Nat} {nd ep k : Int} (h : Rl1 w0 w b (sby nd ep k)) :
    Calls Tryd.prog 77 #[.pointer (some ⟨b, 0, none⟩), .int .i64 ep] w fun e w' => e = .returned (.bool false) ∧ Rl1 w0 w' b (sby nd ep 0) := by
  have := hear_r1 h ep
  rw [(sby_hear nd ep k h.k.e0 h.k.e1).1, (sby_hear nd ep k h.k.e0 h.k.e1).2] at this
  exact this
set_option maxRecDepth 100000 in
set_option maxHeartbeats 8000000 in
theorem silence_any (id ep : Int) (v : Value) (l : List Int) (s : Nat → Addr) (w : World) (S : Se3 w s) (L : IntsI w v l) :
    Calls Tryd.prog 12 #[.int .i64 id, .int .i64 ep, v] w fun e w' => e = .returned (.bool true) ∧ Below w.heap.size w w' := by
  obtain ⟨p, cap, rfl, hat⟩ := L
  have HS : Hid (Se3 w s) := S
  have HAT : Hid (∀ (i : Nat) x, l[i]? = some x → ∃ b o, p = some ⟨b, o, none⟩ ∧ w.cell? ⟨b, o + i, none⟩ = some (.int .i64 x) ∧ -9223372036854775808 ≤ x ∧ x ≤ 9223372036854775807) := hat
  clear S hat
  by_cases hlen : (0 ≤ id ∧ id ≤ 1) ∧ (0 ≤ ep ∧ ep ≤ 1073741824) ∧ l.length ≤ 30
  · obtain ⟨⟨i0, i1⟩, ⟨e0, e1⟩, hl⟩ := hlen
    have x0 : ¬ id < 0 := by omega
    have x1 : ¬ 1 < id := by omega
    have x2 : ¬ ep < 0 := by omega
    have x3 : ¬ 1073741824 < ep := by omega
    have x4 : ¬ (30 : Int) < (l.length : Int) := by omega
    have HI : Hid ((id = 0 ∨ id = 1) ∧ 0 ≤ ep ∧ ep ≤ 1073741824) := ⟨by omega, e0, e1⟩
    have HL : Hid (l.length ≤ 30) := hl
    clear i0 i1 e0 e1 hl
    go_enter Tryd.func12, Tryd.ntmps12
    go_wp2_with fail
    refine (stands_any s w HS.out).mono ?_
    rintro e w0 ⟨rfl, hb0⟩
    have B0 : Hid (Below w.heap.size w w0) := hb0
    clear hb0
    go_wp2_with fail
    refine (new_r1 id ep B0.out HI.out.1 HI.out.2.1 HI.out.2.2).mono ?_
    rintro e w1 ⟨b, rfl, h1⟩
    have R1 : Hid (Rl1 w w1 b (sby id ep 0)) := h1
    clear h1 B0 x0 x1 x2 x3 x4
    go_wp2_with fail
    go_loopw [10] (fun t wr => ∃ i : Nat, i ≤ l.length ∧ t = .int .i64 i ∧ Rl1 w wr b (sby id ep 0)) (fun t _ => l.length - (intOf t).toNat)
    case atStart => exact ⟨0, by omega, rfl, R1.out⟩
    case round =>
      obtain ⟨i, hi, rfl, hr⟩ := hrel
      have RR : Hid (Rl1 w wr b (sby id ep 0)) := hr
      clear hr R1
      by_cases hlt : i < l.length
      · obtain ⟨A, o, hp, hc, _, _⟩ := HAT.out i l[i] (List.getElem?_eq_getElem hlt)
        generalize l[i] = x at *
        subst hp
        have HC : Hid (w.cell? ⟨A, o + i, none⟩ = some (.int .i64 x)) := hc
        have hc := tk RR.out.bl HC.out
        have i0 : (0 : Int) ≤ (i : Int) := by omega
        have i1 : (i : Int) < (l.length : Int) := by omega
        by_cases hx : x < 0
        · go_wp2_with fail
          exact ⟨⟨i + 1, by omega, by go_num, RR.out⟩, by simp [intOf]; omega⟩
        · by_cases hx9 : 9 < x
          · go_wp2_with fail
            exact ⟨⟨i + 1, by omega, by go_num, RR.out⟩, by simp [intOf]; omega⟩
          · go_wp2_with fail
            clear hc
            go_loopw [11] (fun t wr => ∃ k : Int, 0 ≤ k ∧ k ≤ x ∧ t = .int .i64 k ∧ Rl1 w wr b (sby id ep k)) (fun t _ => x.toNat - (intOf t).toNat)
            case atStart => exact ⟨0, by omega, by omega, rfl, RR.out⟩
            case round =>
              obtain ⟨k, hk0, hk, rfl, hr⟩ := hrel
              have RK : Hid (Rl1 w wr b (sby id ep k)) := hr
              clear hr
              have hc := tk RK.out.bl HC.out
              by_cases hkx : k < x
              · go_wp2_with fail
                refine (tick_sby RK.out (by omega)).mono ?_
                rintro e w2 ⟨rfl, h2⟩
                have R2 : Hid (Rl1 w w2 b (sby id ep (k + 1))) := h2
                clear h2 RK hc
                rw [decide_eq_false (by omega)]
                go_wp2_with fail
                exact ⟨⟨k + 1, by omega, by omega, by go_num, R2.out⟩, by simp [intOf]; omega⟩
              · go_wp2_with fail
                refine (hear_sby RK.out).mono ?_
                rintro e w2 ⟨rfl, h2⟩
                have R2 : Hid (Rl1 w w2 b (sby id ep 0)) := h2
                clear h2 RK hc
                go_wp2_with fail
                exact ⟨⟨i + 1, by omega, by go_num, R2.out⟩, by simp [intOf]; omega⟩
      · go_wp2_with fail
        go_loopw [12] (fun t wr => ∃ k : Int, 0 ≤ k ∧ k ≤ 9 ∧ t = .int .i64 k ∧ Rl1 w wr b (sby id ep k)) (fun t _ => 9 - (intOf t).toNat)
        case atStart => exact ⟨0, by omega, by omega, rfl, RR.out⟩
        case round =>
          obtain ⟨k, hk0, hk, rfl, hr⟩ := hrel
          have RK : Hid (Rl1 w wr b (sby id ep k)) := hr
          clear hr
          by_cases hkx : k < 9
          · go_wp2_with fail
            refine (tick_sby RK.out (by omega)).mono ?_
            rintro e w2 ⟨rfl, h2⟩
            have R2 : Hid (Rl1 w w2 b (sby id ep (k + 1))) := h2
            clear h2 RK
            rw [decide_eq_false (by omega)]
            go_wp2_with fail
            exact ⟨⟨k + 1, by omega, by omega, by go_num, R2.out⟩, by simp [intOf]; omega⟩
          · go_wp2_with fail
            refine (tick_sby RK.out (by omega)).mono ?_
            rintro e w2 ⟨rfl, h2⟩
            have R2 : Hid (Rl1 w w2 b (sby id ep (k + 1))) := h2
            clear h2 RK
            rw [decide_eq_true (by omega)]
            go_wp2_with fail
            refine (active_any b _ w2 R2.out.y).mono ?_
            rintro e w3 ⟨rfl, rfl⟩
            simp only [sby]
            go_wp2_with fail
            go_ret
            exact ⟨rfl, R2.out.bl⟩
  · have HN : Hid (id < 0 ∨ 1 < id ∨ ep < 0 ∨ 1073741824 < ep ∨ (30 : Int) < (l.length : Int)) := (by omega : id < 0 ∨ 1 < id ∨ ep < 0 ∨ 1073741824 < ep ∨ (30 : Int) < (l.length : Int))
    clear hlen
    go_enter Tryd.func12, Tryd.ntmps12
    go_wp2_with fail
    refine (stands_any s w HS.out).mono ?_
    rintro e w0 ⟨rfl, hb0⟩
    have B0 : Hid (Below w.heap.size w w0) := hb0
    clear hb0
    by_cases x0 : id < 0
    · go_wp2_with fail
      go_ret
      exact ⟨rfl, B0.out⟩
    · by_cases x1 : 1 < id
      · go_wp2_with fail
        go_ret
        exact ⟨rfl, B0.out⟩
      · by_cases x2 : ep < 0
        · go_wp2_with fail
          go_ret
          exact ⟨rfl, B0.out⟩
        · by_cases x3 : 1073741824 < ep
          · go_wp2_with fail
            go_ret
            exact ⟨rfl, B0.out⟩
          · have x4 : (30 : Int) < (l.length : Int) := by have := HN.out; omega
            go_wp2_with fail
            go_ret
            exact ⟨rfl, B0.out⟩
end Go.Proofs.YtneoflcfhdjcoabDoor
