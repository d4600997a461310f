/-
  The law RoleActs: any acts of any role are as the document's.
-/
import Derived.Test.YtneoflcfhdjcoabDoorRoQ
import Derived.Test.YtneoflcfhdjcoabDoorIntO
import Derived.Test.YtneoflcfhdjcoabDoorCod2
import Derived.Deep.DeepCutAuto
import Derived.Deep.CutRange
import Derived.Deep.RegionHeld3
import Derived.Deep.CutBlock
namespace Go.Proofs.YtneoflcfhdjcoabDoor
open Go.RowKit

theorem Se3.of {w : World} {s : Nat → Addr} (S : Sents w s) : Se3 w s := ⟨S.c1, S.c2, S.c10⟩
theorem Sam.nxV {r q : Ro} {i : Int} (h : Sam r q i) : q.nxV = r.nxV := by unfold Ro.nxV; rw [h.nx]
theorem Sam.nxE {r q : Ro} {i : Int} (h : Sam r q i) : q.nxE = r.nxE := by unfold Ro.nxE; rw [h.nx]
theorem Ro.nxE_le (r : Ro) : r.nxE ≤ 11 := by unfold Ro.nxE; split <;> omega
theorem Ro.clE_le (r : Ro) (n : Int) : r.clE n ≤ 11 := by unfold Ro.clE; (repeat' split) <;> omega
set_option maxRecDepth 100000 in
set_option maxHeartbeats 8000000 in
theorem racts_any (id ep : Int) (v u : Value) (l cl : List Int) (s : Nat → Addr) (w : World) (S : Sents w s) (L : IntsI w v l) (M : IntsI w u cl) :
    Calls Tryd.prog 13 #[.int .i64 id, .int .i64 ep, v, u] w fun e w' => e = .returned (.bool true) ∧ Below w.heap.size w w' := by
  obtain ⟨p, cap, rfl, hat⟩ := L
  obtain ⟨p2, cap2, rfl, hat2⟩ := M
  have HS : Hid (Sents w s) := S
  have HAT : Hid (∀ (i : Nat) x, l[i]? = some x → ∃ b o, p = some ⟨b, o, none⟩ ∧ w.cell? ⟨b, o + i, none⟩ = some (.int .i64 x) ∧ -9223372036854775808 ≤ x ∧ x ≤ 9223372036854775807) := hat
  have HAT2 : Hid (∀ (i : Nat) x, cl[i]? = some x → ∃ b o, p2 = some ⟨b, o, none⟩ ∧ w.cell? ⟨b, o + i, none⟩ = some (.int .i64 x) ∧ -9223372036854775808 ≤ x ∧ x ≤ 9223372036854775807) := hat2
  clear S hat hat2
  by_cases hlen : l.length ≤ 100
  · have x4 : ¬ (100 : Int) < (l.length : Int) := by omega
    have HL : Hid (l.length ≤ 100) := hlen
    go_enter Tryd.func13, Tryd.ntmps13
    go_wp2_with fail
    refine (stands_any s w (Se3.of HS.out)).mono ?_
    rintro e w0 ⟨rfl, hb0⟩
    have B0 : Hid (Below w.heap.size w w0) := hb0
    clear hb0
    go_wp2_with fail
    by_cases hok : (0 ≤ id ∧ id ≤ 1) ∧ (0 ≤ ep ∧ ep ≤ 1073741824)
    · obtain ⟨⟨i0, i1⟩, ⟨e0, e1⟩⟩ := hok
      have x0 : ¬ id < 0 := by omega
      have x1 : ¬ 1 < id := by omega
      have x2 : ¬ ep < 0 := by omega
      have x3 : ¬ 1073741824 < ep := by omega
      have HI : Hid ((id = 0 ∨ id = 1) ∧ 0 ≤ ep ∧ ep ≤ 1073741824) := ⟨by omega, e0, e1⟩
      clear i0 i1 e0 e1
      refine (new_r1 id ep B0.out HI.out.1 HI.out.2.1 HI.out.2.2).mono ?_
      rintro e w1 ⟨b, rfl, h1⟩
      have R1 : Hid (Rl1 w w1 b (Ro.new id ep)) := h1
      clear h1 B0
      go_wp2_with fail
      have T0 : Hid (Two w (w1.alloc (.cells #[.int .i64 id, .int .i64 ep, .int .i64 0, .bool false] 120)) b w1.heap.size (Ro.new id ep) ⟨id, ep, 0, false⟩) :=
        ⟨R1.out.y.below (aB _ _), heap_alloc_new _ _, by have := R1.out.y.lt; omega, R1.out.hb, R1.out.bl.size, t2 R1.out.bl (aB _ _)⟩
      have S0 : Hid (Sam (Ro.new id ep) ⟨id, ep, 0, false⟩ 0) := Sam.new HI.out.1 HI.out.2.1 HI.out.2.2
      generalize w1.alloc (.cells #[.int .i64 id, .int .i64 ep, .int .i64 0, .bool false] 120) = w2 at *
      generalize w1.heap.size = m at *
      clear R1 x0 x1 x2 x3 x4 HI
      go_loopw [13] (fun t wr => ∃ (i : Nat) (r q : Ro), i ≤ l.length ∧ t = .int .i64 i ∧ Sam r q i ∧ Two w wr b m r q) (fun t _ => l.length - (intOf t).toNat)
      case atStart => exact ⟨0, _, _, by omega, rfl, S0.out, T0.out⟩
      case round =>
        obtain ⟨i, r, q, hi, rfl, hs, ht⟩ := hrel
        have SR : Hid (Sam r q i) := hs
        have TR : Hid (Two w wr b m r q) := ht
        clear hs ht T0 S0
        by_cases hlt : i < l.length
        · obtain ⟨A, o, hp, hc, _, _⟩ := HAT.out i l[i] (List.getElem?_eq_getElem hlt)
          generalize l[i] = x at *
          subst hp
          have HC : Hid (w.cell? ⟨A, o + i, none⟩ = some (.int .i64 x)) := hc
          have hc := tk TR.out.bl HC.out
          have i0 : (0 : Int) ≤ (i : Int) := by omega
          have i1 : (i : Int) < (l.length : Int) := by omega
          go_upto_block 2 with fail
          go_cut [14, 15, 16, 17] (fun _ _ _ _ wx => ∃ r' q' : Ro, Sam r' q' (i + 1 : Int) ∧ Two w wx b m r' q')
          case first =>
            by_cases hx1 : x = -1
            · have hb1 : (x == (-1 : Int)) = true := beq_iff_eq.2 hx1
              clear hc hx1
              go_wp2_with fail
              refine (tick_two TR.out SR.out.k).mono ?_
              rintro e w3 ⟨rfl, h3⟩
              have T3 : Hid (Two w w3 b m r.tick q) := h3
              clear h3
              go_wp2_with fail
              refine (rtick_two T3.out SR.out.s0 (by have := SR.out.s1; have := HL.out; omega)).mono ?_
              rintro e w4 ⟨rfl, h4⟩
              have T4 : Hid (Two w w4 b m r.tick q.rtick) := h4
              clear h4 T3
              rw [SR.out.tick.2]
              have hbb : (r.rings == !r.rings) = false := by cases r.rings <;> rfl
              go_wp2_with fail
              go_meet
              case rel => exact ⟨_, _, SR.out.tick.1, T4.out⟩
            · have hb1 : (x == (-1 : Int)) = false := beq_eq_false_iff_ne.2 hx1
              by_cases hx2 : x = -2
              · have hb2 : (x == (-2 : Int)) = true := beq_iff_eq.2 hx2
                clear hc hx1 hx2
                go_wp2_with fail
                refine (next_two TR.out SR.out.k s (Se3.of HS.out)).mono ?_
                rintro e w3 ⟨rfl, h3⟩
                have T3 : Hid (Two w w3 b m r q) := h3
                clear h3 TR
                go_wp2_with fail
                refine (rnext_any m q w3 T3.out.z (by rw [SR.out.nd]; exact SR.out.k.n) (by rw [SR.out.ep]; exact SR.out.k.e0) (by rw [SR.out.ep]; exact SR.out.k.e1)).mono ?_
                rintro e w4 ⟨rfl, rfl⟩
                rw [SR.out.nxV, SR.out.nxE]
                go_wp2_with fail
                refine (coded2_any r.nxE r.nxE_le _ s _ (HS.out.below T3.out.bl)).mono ?_
                rintro e w5 ⟨rfl, hb5⟩
                have T5 : Hid (Two w w5 b m r q) := T3.out.below hb5
                clear hb5 T3
                have hcc : (((r.nxE : Nat) : Int) == ((r.nxE : Nat) : Int)) = true := by simp
                by_cases hcl : i < cl.length
                · obtain ⟨A2, o2, hp2, hc2, _, _⟩ := HAT2.out i cl[i] (List.getElem?_eq_getElem hcl)
                  generalize cl[i] = y at *
                  subst hp2
                  have hc2 := tk T5.out.bl hc2
                  have i2 : (i : Int) < (cl.length : Int) := by omega
                  go_wp2_with fail
                  refine (claim_two T5.out SR.out.k y s (Se3.of HS.out)).mono ?_
                  rintro e w6 ⟨rfl, h6⟩
                  have T6 : Hid (Two w w6 b m (r.claim y) q) := h6
                  clear h6 T5 hc2
                  go_wp2_with fail
                  refine (rclaim_two T6.out y (by rw [SR.out.nd]; exact SR.out.k.n) (by rw [SR.out.ep]; exact SR.out.k.e0) (by rw [SR.out.ep]; exact SR.out.k.e1)).mono ?_
                  rintro e w7 ⟨rfl, h7⟩
                  have T7 : Hid (Two w w7 b m (r.claim y) (q.claim y)) := h7
                  clear h7 T6
                  rw [SR.out.clE y]
                  go_wp2_with fail
                  refine (coded2_any (r.clE y) (r.clE_le y) _ s _ (HS.out.below T7.out.bl)).mono ?_
                  rintro e w8 ⟨rfl, hb8⟩
                  have T8 : Hid (Two w w8 b m (r.claim y) (q.claim y)) := T7.out.below hb8
                  clear hb8 T7
                  have hcd : (((r.clE y : Nat) : Int) == ((r.clE y : Nat) : Int)) = true := by simp
                  go_wp2_with fail
                  go_meet
                  case rel => exact ⟨_, _, (SR.out.claim y).mono (by omega), T8.out⟩
                · have i2 : ¬ (i : Int) < (cl.length : Int) := by omega
                  generalize hy : r.nxV = y at *
                  have HY : Hid (r.nxV = y) := hy
                  clear hy
                  go_wp2_with fail
                  refine (claim_two T5.out SR.out.k y s (Se3.of HS.out)).mono ?_
                  rintro e w6 ⟨rfl, h6⟩
                  have T6 : Hid (Two w w6 b m (r.claim y) q) := h6
                  clear h6 T5
                  go_wp2_with fail
                  refine (rclaim_two T6.out y (by rw [SR.out.nd]; exact SR.out.k.n) (by rw [SR.out.ep]; exact SR.out.k.e0) (by rw [SR.out.ep]; exact SR.out.k.e1)).mono ?_
                  rintro e w7 ⟨rfl, h7⟩
                  have T7 : Hid (Two w w7 b m (r.claim y) (q.claim y)) := h7
                  clear h7 T6
                  rw [SR.out.clE y]
                  go_wp2_with fail
                  refine (coded2_any (r.clE y) (r.clE_le y) _ s _ (HS.out.below T7.out.bl)).mono ?_
                  rintro e w8 ⟨rfl, hb8⟩
                  have T8 : Hid (Two w w8 b m (r.claim y) (q.claim y)) := T7.out.below hb8
                  clear hb8 T7
                  have hcd : (((r.clE y : Nat) : Int) == ((r.clE y : Nat) : Int)) = true := by simp
                  go_wp2_with fail
                  go_meet
                  case rel => exact ⟨_, _, (SR.out.claim y).mono (by omega), T8.out⟩
              · have hb2 : (x == (-2 : Int)) = false := beq_eq_false_iff_ne.2 hx2
                have hS : wr.drew.cell? ⟨A, o + i, none⟩ = some (.int .i64 x) := hc
                clear hx1 hx2
                go_wp2_with fail
                go_region_held3 (fun w' => w'.cell? ⟨A, o + i, none⟩ = some (.int .i64 x)) (first | assumption | exact tk TX2.out.bl HC.out | exact tk TX1.out.bl HC.out)
                  (first
                    | (go_at_call 77; refine (hear_two (TR.out.below (Below.refl _ _).drew) x).mono ?_; rintro e x1 ⟨rfl, h1⟩; have TX1 : Hid (Two w x1 b m (r.hear x) q) := h1; clear h1)
                    | (go_at_call 83; refine (rhear_two TX1.out x).mono ?_; rintro e x2 ⟨rfl, h2⟩; have TX2 : Hid (Two w x2 b m (r.hear x) (q.rhear x)) := h2; clear h2; rw [(SR.out.hear x).2]))
                have hbb : (r.falls x == !r.falls x) = false := by cases r.falls x <;> rfl
                go_wp2_with fail
                go_meet
                case rel => exact ⟨_, _, (SR.out.hear x).1.mono (by omega), TX2.out⟩
          case rest =>
            obtain ⟨r', q', hs', ht'⟩ := hcut
            have S9 : Hid (Sam r' q' (i + 1 : Int)) := hs'
            have T9 : Hid (Two w wc b m r' q') := ht'
            clear hs' ht' hc SR TR
            have AC : Hid (∀ k, Calls Tryd.prog 75 #[.pointer (some ⟨b, 0, none⟩)] (wc.drewN k) fun e w' => e = .returned (.bool r'.ac) ∧ w' = wc.drewN k) := fun k => active_any b r' _ T9.out.y
            have EC : Hid (∀ k, Calls Tryd.prog 78 #[.pointer (some ⟨b, 0, none⟩)] (wc.drewN k) fun e w' => e = .returned (.int .i64 r'.ep) ∧ w' = wc.drewN k) := fun k => epochR_any b r' _ T9.out.y
            have n1 := T9.out.z.c1
            have n3 := T9.out.z.c3
            rw [S9.out.ep] at n1
            rw [S9.out.ac] at n3
            obtain ⟨ac, hac⟩ : ∃ ac, r'.ac = ac := ⟨_, rfl⟩
            obtain ⟨ep', hep⟩ : ∃ ep', r'.ep = ep' := ⟨_, rfl⟩
            rw [hac] at AC n3
            rw [hep] at EC n1
            clear hac hep
            have hon2 : (ac == !ac) = false := by cases ac <;> rfl
            go_wp2_with fail
            go_quiet ((first | (go_at_call 75; exact Calls.quiet_of_same (AC.out _)) | (go_at_call 78; exact Calls.quiet_of_same (EC.out _))))
            go_wp2_with fail
            refine ⟨⟨i + 1, r', q', by omega, by go_num, S9.out, ?_⟩, by simp [intOf]; omega⟩
            exact T9.out.below ⟨rfl, rfl, rfl, Nat.le_refl _, fun _ _ => rfl⟩
        · go_wp2_with fail
          go_ret
          exact ⟨rfl, TR.out.bl⟩
    · refine (newR_bad id ep s w0 ((Se3.of HS.out).below B0.out) ?_).mono ?_
      · by_cases hid : id ≠ 0 ∧ id ≠ 1
        · exact Or.inl hid
        · right
          cases hp : isEpR ep
          · rfl
          · exact absurd ⟨by omega, isEpR_iff.1 hp⟩ hok
      rintro e w1 ⟨rfl, hb1⟩
      have B1 : Hid (Below w.heap.size w w1) := t2 B0.out hb1
      have HN : Hid (id < 0 ∨ 1 < id ∨ ep < 0 ∨ 1073741824 < ep) := (by omega : id < 0 ∨ 1 < id ∨ ep < 0 ∨ 1073741824 < ep)
      clear hb1 B0 hok x4
      have CD : Hid (Calls Tryd.prog 62 #[terr s 2, .int .i64 2] w1 fun e w' => e = .returned (.bool true) ∧ Below w1.heap.size w1 w') := coded2_any 2 (by omega) 2 s w1 (HS.out.below B1.out)
      by_cases x0 : id < 0
      · go_wp2_with fail
        refine CD.out.mono ?_
        rintro e w2 ⟨rfl, hb2⟩
        go_wp2_with fail
        go_ret
        exact ⟨rfl, t2 B1.out hb2⟩
      · by_cases x1 : 1 < id
        · go_wp2_with fail
          refine CD.out.mono ?_
          rintro e w2 ⟨rfl, hb2⟩
          go_wp2_with fail
          go_ret
          exact ⟨rfl, t2 B1.out hb2⟩
        · by_cases x2 : ep < 0
          · go_wp2_with fail
            refine CD.out.mono ?_
            rintro e w2 ⟨rfl, hb2⟩
            go_wp2_with fail
            go_ret
            exact ⟨rfl, t2 B1.out hb2⟩
          · have x3 : 1073741824 < ep := by have := HN.out; omega
            go_wp2_with fail
            refine CD.out.mono ?_
            rintro e w2 ⟨rfl, hb2⟩
            go_wp2_with fail
            go_ret
            exact ⟨rfl, t2 B1.out hb2⟩
  · have x4 : (100 : Int) < (l.length : Int) := by omega
    go_enter Tryd.func13, Tryd.ntmps13
    go_wp2_with fail
    refine (stands_any s w (Se3.of HS.out)).mono ?_
    rintro e w0 ⟨rfl, hb0⟩
    have B0 : Hid (Below w.heap.size w w0) := hb0
    clear hb0
    go_wp2_with fail
    go_ret
    exact ⟨rfl, B0.out⟩
end Go.Proofs.YtneoflcfhdjcoabDoor
