/-
  The document's Put of a cell.
-/
import Derived.Test.YtdkfjjamfefcaabDoorCaE
import Derived.Deep.DeepCutAuto
import Derived.Deep.CutRange
namespace Go.Proofs.YtdkfjjamfefcaabDoor
open Go.RowKit

theorem RS.mono {w0 w : World} {n m : Nat} {s : By} {y : Nm} {d : Bool} {lo lo' : Int} (h : RS w0 w n m s y d lo) (hl : lo' ≤ lo) : RS w0 w n m s y d lo' := by
  obtain ⟨⟨lv, r1, r2, r3, r4⟩, c, ne, len, x⟩ := h
  exact ⟨⟨lv, r1, r2, by omega, r4⟩, c, ne, len, x⟩
theorem byte0 (w : World) : Calls Tryd.prog 95 #[.int .i64 0] w fun e w' => e = .returned (.string (stB [0])) ∧ Below w.heap.size w w' := byte_any 0 (by decide) (by decide) w
theorem byte165 (w : World) : Calls Tryd.prog 95 #[.int .i64 165] w fun e w' => e = .returned (.string (stB [165])) ∧ Below w.heap.size w w' := byte_any 165 (by decide) (by decide) w
def retC (b : Bool) : Int := if b then 0 else 7
def retY (b : Bool) (x y : Nm) : Nm := if b then x else y
set_option maxRecDepth 100000 in
set_option maxHeartbeats 8000000 in
/-- Put behind all tests. -/
theorem rput_go {w0 w : World} {n m : Nat} {s : By} {y x : Nm} {lo : Int} (h : RS w0 w n m s y false lo) (ep li : Int) (hlo : -900000 ≤ lo) (e1 : 0 ≤ ep) (e2 : ep ≤ 1073741824) (e3 : 0 ≤ li) (e4 : li ≤ 1073741824) (o1 : (y.e : Int) ≤ ep) (o2 : (y.l : Int) ≤ li) (hn : y.n < 4294967295) (hx : x = ⟨y.n + 1, ep.toNat, li.toNat⟩) :
    Calls Tryd.prog 68 #[.pointer (some ⟨m, 0, none⟩), .int .i64 ep, .int .i64 li] w fun e w' => e = .returned (.int .i64 (retC (putS s x).2)) ∧ RS w0 w' n m (putS s x).1 (retY (putS s x).2 x y) (!(putS s x).2) (lo - 20) := by
  obtain ⟨R, hR⟩ : ∃ R, R = putS s x := ⟨_, rfl⟩
  have hxn : x.n = y.n + 1 := by rw [hx]
  obtain ⟨p, hp⟩ : ∃ p, p = 20 * ((y.n + 1) % 2) := ⟨_, rfl⟩
  have R0 : Hid (s.on = false → R = (s, false)) := fun h => by rw [hR]; exact putS_offp s x h
  have R1 : Hid (s.B.getD (p + 16) 0 = 0 → R = restW s x p 0) := fun h => by rw [hR, hp, ← hxn]; exact putS_pre0 s x (by rw [hxn, ← hp]; exact h)
  have R2 : Hid (s.B.getD (p + 16) 0 ≠ 0 → R = if (wrs s (seqW (p + 16) [0])).2 = true then restW (wrs s (seqW (p + 16) [0])).1 x p 0 else ((wrs s (seqW (p + 16) [0])).1, false)) := fun h => by
    have := putS_one s x (by rw [hxn, ← hp]; exact h)
    rw [hxn, ← hp] at this
    rw [hR]; exact this
  have BO : Hid (∀ w, Calls Tryd.prog 94 #[.int .i64 ((y.n : Int) + 1), .int .i64 ep, .int .i64 li] w fun e w' => e = .returned (.string (stB (img x))) ∧ Below w.heap.size w w') := fun w => by
    have := rbody_any x (by omega) (by rw [hx]; show ep.toNat < _; omega) (by rw [hx]; show li.toNat < _; omega) w
    rw [hx] at this ⊢
    have a1 : ((ep.toNat : Nat) : Int) = ep := by omega
    have a2 : ((li.toNat : Nat) : Int) = li := by omega
    simp only [a1, a2] at this
    exact this
  have HXV : Hid ((x.n : Int) = (y.n : Int) + 1 ∧ (x.e : Int) = ep ∧ (x.l : Int) = li) := by
    rw [hx]; exact ⟨by simp, by show ((ep.toNat : Nat) : Int) = ep; omega, by show ((li.toNat : Nat) : Int) = li; omega⟩
  rw [← hR]
  have HRS : Hid (RS w0 w n m s y false lo) := h
  have HLO : Hid (-900000 ≤ lo) := hlo
  have c0 := h.c.c0
  have c1 := h.c.c1
  have c2 := h.c.c2
  have c3 := h.c.c3
  have c4 := h.c.c4
  have cf := fun i => h.c.fr i
  have hmn := h.ne
  obtain ⟨lv, r1, _⟩ := h.r
  have b0 := r1.c0
  have b1 := r1.c1
  have zS : (stB s.B).size = 64 := h.len
  have hp64 : p + 17 ≤ 64 := by omega
  have HM : Hid (∀ q : p + 16 < (stB s.B).size, ((stB s.B)[p + 16]'q) = s.B.getD (p + 16) 0) := fun q => by
    rw [List.getD_eq_getElem?_getD, List.getElem?_eq_getElem (by exact q)]
    rfl
  have hpv : (((y.n : Int) + 1) % 2) * 20 = (p : Int) := by omega
  have g1 : ¬ ep < 0 := by omega
  have g2 : ¬ (1073741824 : Int) < ep := by omega
  have g3 : ¬ li < 0 := by omega
  have g4 : ¬ (1073741824 : Int) < li := by omega
  have g5 : ¬ ep < (y.e : Int) := by omega
  have g6 : ¬ li < (y.l : Int) := by omega
  have g7 : ¬ (4294967296 : Int) ≤ (y.n : Int) + 1 := by omega
  have g8 : (y.n : Int) ≤ 4294967296 := by omega
  clear h hlo e1 e2 e3 e4 o1 o2 hn hx hR hxn r1 hp
  go_enter Tryd.func68, Tryd.ntmps68
  go_upto_region 12 with fail
  clear g1 g2 g3 g4 g5 g6 g7 g8 hpv c1 c2 c3 c4
  obtain ⟨on, hon⟩ : ∃ on, s.on = on := ⟨_, rfl⟩
  have HON : Hid (s.on = on) := hon
  rw [hon] at b1 ⊢
  clear hon
  obtain ⟨M, hM⟩ : ∃ M, M = s.B.getD (p + 16) 0 := ⟨_, rfl⟩
  rw [← hM] at R1 R2 HM
  clear hM
  have ip : (p : Int) + 16 < 64 := by omega
  go_cut [73] (fun t wx => ∃ q : Bool, t = .bool q ∧ q = (on && !(M == 0)) ∧ wx = w)
  case first =>
    have hq : p + 16 < (stB s.B).size := by rw [zS]; omega
    have hMv := HM.out hq
    have HMV : Hid ((stB s.B)[p + 16]'hq = M) := hMv
    clear hMv
    generalize stB s.B = S at *
    have iS : (p : Int) + 16 < (S.size : Int) := by omega
    cases on
    · go_wp2_with fail
      go_meet
      case rel => exact ⟨_, rfl, rfl, rfl⟩
    · obtain ⟨u, hu⟩ : ∃ u, S[p + 16]'hq = u := ⟨_, rfl⟩
      have HU : Hid (u = M) := by show _ = _; rw [← hu]; exact HMV.out
      by_cases h0 : M = 0
      · have hu0 : u.toNat = 0 := by rw [HU.out, h0]; rfl
        have hm0 : ((u.toNat : Int) != 0) = false := by rw [hu0]; rfl
        go_wp2_with fail
        go_meet
        case rel => exact ⟨_, rfl, by rw [h0]; rfl, rfl⟩
      · have hm0 : ((u.toNat : Int) != 0) = true := by
          rw [bne_iff_ne, HU.out]
          intro e
          exact h0 (UInt8.toNat_inj.1 (by show _ = 0; omega))
        have HB0 : Hid ((M == 0) = false) := beq_eq_false_iff_ne.2 h0
        go_wp2_with fail
        go_meet
        case rel => exact ⟨_, rfl, by rw [HB0.out]; rfl, rfl⟩
  case rest =>
    obtain ⟨q, rfl, hq, rfl⟩ := hcut
    have HQ : Hid (q = (on && !(M == 0))) := hq
    clear hq
    go_upto_if 73 with fail
    go_cut [9] (fun t wx => ∃ (st : By) (ok : Bool), t = .bool ok ∧ RS w0 wx n m st y false (lo - 1) ∧ ((ok = true ∧ R = restW st x p 0) ∨ (ok = false ∧ R = (st, false))))
    case first =>
      cases q
      · go_wp2_with fail
        go_meet
        case rel =>
          refine ⟨s, on, rfl, HRS.out.mono (by omega), ?_⟩
          cases on
          · exact .inr ⟨rfl, R0.out HON.out⟩
          · refine .inl ⟨rfl, R1.out ?_⟩
            have := HQ.out
            simpa using this
      · have hmm : on = true ∧ M ≠ 0 := by
          have := HQ.out
          simpa using this
        obtain ⟨ho, h0⟩ := hmm
        have HB0 : Hid (M ≠ 0) := h0
        clear h0 ho
        · have hS : wc.drew.cell? ⟨m, 0, none⟩ = some (.pointer (some ⟨n, 0, none⟩)) := c0
          have hwr : IntKind.i64.wrap ((p : Int) + 16) = (p : Int) + 16 := by rw [IntKind.wrap_i64]; omega
          go_wp2_with fail
          go_region_held3 (fun w' => w'.cell? ⟨m, 0, none⟩ = some (.pointer (some ⟨n, 0, none⟩))) (first | assumption | exact RB2.out.c.c0 | exact RB1.out.c.c0)
            (first
          | (go_at_call 95; refine (byte0 _).mono ?_; rintro e v1 ⟨rfl, hb1⟩; have RB1 : Hid (RS w0 v1 n m s y false (lo)) := HRS.out.drew.below hb1; clear hb1)
          | (go_at_call 96; refine (rwrite_rs RB1.out (p + 16) [0] (by simp; omega) (by simp) (by have := HLO.out; omega)).mono ?_; rintro e v2 ⟨rfl, hr2⟩; have RB2 : Hid (RS w0 v2 n m (wrs s (seqW (p + 16) [0])).1 y false (lo - (([0]).length : Nat))) := hr2; clear hr2))
          have R3 : Hid (R = if (wrs s (seqW (p + 16) [0])).2 = true then restW (wrs s (seqW (p + 16) [0])).1 x p 0 else ((wrs s (seqW (p + 16) [0])).1, false)) := R2.out HB0.out
          generalize wrs s (seqW (p + 16) [0]) = P at *
          obtain ⟨st, ok⟩ := P
          go_wp2_with fail
          go_meet
          case rel =>
            refine ⟨st, ok, rfl, RB2.out, ?_⟩
            cases ok
            · exact .inr ⟨rfl, R3.out⟩
            · exact .inl ⟨rfl, R3.out⟩
    case rest =>
      obtain ⟨st, ok, rfl, hrs, hor⟩ := hcut
      have RS1 : Hid (RS w0 wc n m st y false (lo - 1)) := hrs
      have OR1 : Hid ((ok = true ∧ R = restW st x p 0) ∨ (ok = false ∧ R = (st, false))) := hor
      clear hrs hor HRS R0 R1 R2 HM c0 b0 b1 HON HQ zS
      go_upto_if 82 with fail
      go_cut [9] (fun t wx => ∃ (st : By) (ok : Bool), t = .bool ok ∧ RS w0 wx n m st y false (lo - 17) ∧ ((ok = true ∧ R = wrs st (seqW (p + 16) [165])) ∨ (ok = false ∧ R = (st, false))))
      case first =>
        cases ok
        · go_wp2_with fail
          go_meet
          case rel =>
            rcases OR1.out with ⟨h, _⟩ | ⟨_, h⟩
            · cases h
            · exact ⟨st, false, rfl, RS1.out.mono (by omega), .inr ⟨rfl, h⟩⟩
        · have hS : wc.drew.cell? ⟨m, 0, none⟩ = some (.pointer (some ⟨n, 0, none⟩)) := RS1.out.c.c0
          have hil : (img x).length = 16 := img_len x
          go_wp2_with fail
          go_region_held3 (fun w' => w'.cell? ⟨m, 0, none⟩ = some (.pointer (some ⟨n, 0, none⟩))) (first | assumption | exact RB2.out.c.c0 | exact RB1.out.c.c0)
            (first
            | (go_at_call 94; refine (BO.out _).mono ?_; rintro e v1 ⟨rfl, hb1⟩; have RB1 : Hid (RS w0 v1 n m st y false (lo - 1)) := RS1.out.drew.below hb1; clear hb1)
            | (go_at_call 96; refine (rwrite_rs RB1.out (p) (img x) (by omega) (fun e => by rw [e] at hil; simp at hil) (by have := HLO.out; omega)).mono ?_; rintro e v2 ⟨rfl, hr2⟩; have RB2 : Hid (RS w0 v2 n m (wrs st (seqW (p) (img x))).1 y false (lo - 1 - ((img x).length : Nat))) := hr2; clear hr2))
          have R3 : Hid (R = if (wrs st (seqW p (img x))).2 = true then wrs (wrs st (seqW p (img x))).1 (seqW (p + 16) [165]) else ((wrs st (seqW p (img x))).1, false)) := by
            rcases OR1.out with ⟨_, h⟩ | ⟨h, _⟩
            · rw [h]; exact restW_two st x p
            · cases h
          generalize wrs st (seqW p (img x)) = P at *
          obtain ⟨s2, ok2⟩ := P
          go_wp2_with fail
          go_meet
          case rel =>
            refine ⟨s2, ok2, rfl, RB2.out.mono (by rw [hil]; omega), ?_⟩
            cases ok2
            · exact .inr ⟨rfl, R3.out⟩
            · exact .inl ⟨rfl, R3.out⟩
      case rest =>
        obtain ⟨st, ok, rfl, hrs, hor⟩ := hcut
        have RS2 : Hid (RS w0 wc n m st y false (lo - 17)) := hrs
        have OR2 : Hid ((ok = true ∧ R = wrs st (seqW (p + 16) [165])) ∨ (ok = false ∧ R = (st, false))) := hor
        clear hrs hor RS1 OR1
        go_upto_if 93 with fail
        go_cut [9] (fun t wx => ∃ (st : By) (ok : Bool), t = .bool ok ∧ RS w0 wx n m st y false (lo - 20) ∧ R = (st, ok))
        case first =>
          cases ok
          · go_wp2_with fail
            go_meet
            case rel =>
              rcases OR2.out with ⟨h, _⟩ | ⟨_, h⟩
              · cases h
              · exact ⟨st, false, rfl, RS2.out.mono (by omega), h⟩
          · have hS : wc.drew.cell? ⟨m, 0, none⟩ = some (.pointer (some ⟨n, 0, none⟩)) := RS2.out.c.c0
            have hwr : IntKind.i64.wrap ((p : Int) + 16) = (p : Int) + 16 := by rw [IntKind.wrap_i64]; omega
            go_wp2_with fail
            go_region_held3 (fun w' => w'.cell? ⟨m, 0, none⟩ = some (.pointer (some ⟨n, 0, none⟩))) (first | assumption | exact RB2.out.c.c0 | exact RB1.out.c.c0)
              (first
            | (go_at_call 95; refine (byte165 _).mono ?_; rintro e v1 ⟨rfl, hb1⟩; have RB1 : Hid (RS w0 v1 n m st y false (lo - 17)) := RS2.out.drew.below hb1; clear hb1)
            | (go_at_call 96; refine (rwrite_rs RB1.out (p + 16) ([165]) (by simp; omega) (by simp) (by have := HLO.out; omega)).mono ?_; rintro e v2 ⟨rfl, hr2⟩; have RB2 : Hid (RS w0 v2 n m (wrs st (seqW (p + 16) ([165]))).1 y false (lo - 17 - (([165]).length : Nat))) := hr2; clear hr2))
            have R3 : Hid (R = wrs st (seqW (p + 16) [165])) := by
              rcases OR2.out with ⟨_, h⟩ | ⟨h, _⟩
              · exact h
              · cases h
            generalize wrs st (seqW (p + 16) [165]) = P at *
            obtain ⟨s2, ok2⟩ := P
            go_wp2_with fail
            go_meet
            case rel => exact ⟨s2, ok2, rfl, RB2.out.mono (by simp; omega), R3.out⟩
        case rest =>
          obtain ⟨st, ok, rfl, hrs, hR⟩ := hcut
          have RS3 : Hid (RS w0 wc n m st y false (lo - 20)) := hrs
          have HR3 : Hid (R = (st, ok)) := hR
          clear hrs hR RS2 OR2
          have c1 := RS3.out.c.c1
          have c2 := RS3.out.c.c2
          have c3 := RS3.out.c.c3
          have c4 := RS3.out.c.c4
          have cg := fun i => RS3.out.c.fr i
          cases ok
          · go_wp2_with fail
            go_ret
            rw [HR3.out]
            exact ⟨rfl, RS3.out.kill true⟩
          · go_wp2_with fail
            go_ret
            rw [HR3.out]
            refine ⟨rfl, ?_⟩
            have := RS3.out.put x
            rw [HXV.out.1, HXV.out.2.1, HXV.out.2.2] at this
            exact this
end Go.Proofs.YtdkfjjamfefcaabDoor
