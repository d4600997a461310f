/-
  Package cell's Put.
-/
import Derived.Test.YthmnmdikpccenacDoorCeO
namespace Go.Proofs.YthmnmdikpccenacDoor
open Go.RowKit

def badEp (ep li : Int) : Bool := !isEp ep || !isEp li
def oldEp (s : By) (ep li : Int) : Bool := decide (ep < (newest s.B).e) || decide (li < (newest s.B).l)
def nextNm (s : By) (ep li : Int) : Nm := ⟨(newest s.B).n + 1, ep.toNat, li.toNat⟩
/-- Put's error, what it leaves of the bytes, and whether the cell is off behind it. -/
def putE (off : Bool) (s : By) (ep li : Int) : Nat × By × Bool :=
  if off then (7, s, true)
  else if badEp ep li then (2, s, false)
  else if oldEp s ep li then (10, s, false)
  else if (newest s.B).n = 4294967295 then (6, s, false)
  else if (putS s (nextNm s ep li)).2 then (0, (putS s (nextNm s ep li)).1, false)
  else (7, (putS s (nextNm s ep li)).1, true)
set_option maxRecDepth 100000 in
set_option maxHeartbeats 4000000 in
theorem cput_any (c b : Nat) (off : Bool) (s : By) (ep li : Int) (se : Nat → Addr) (w : World) (C : Cel w c b off) (S : Byt w b s) (E : Se5 w se) (hcb : c ≠ b) (hgb : 2 ≠ b) (hgc : 2 ≠ c) (hL : s.left ≤ 9223372036854775807) :
    Calls Tryd.prog 23 #[.pointer (some ⟨c, 0, none⟩), .int .i64 ep, .int .i64 li] w fun e w' => e = .returned (terr se (putE off s ep li).1) ∧ Byt w' b (putE off s ep li).2.1 ∧ Cel w' c b (putE off s ep li).2.2 ∧ Chg2 b c w w' := by
  obtain ⟨R, hR⟩ : ∃ R, R = putE off s ep li := ⟨_, rfl⟩
  rw [← hR]
  have HR : Hid (R = putE off s ep li) := hR
  have HS : Hid (Byt w b s) := S
  have HC : Hid (Cel w c b off) := C
  have HE : Hid (Se5 w se) := E
  have HL : Hid (s.left ≤ 9223372036854775807) := hL
  have c1 := C.c1
  have g1 := E.c1
  have g5 := E.c5
  have g6 := E.c6
  have g9 := E.c9
  clear hR S C E hL
  cases off
  · cases hb : badEp ep li
    · have HB : Hid (isEp ep = true ∧ isEp li = true) := by
        show _ ∧ _
        unfold badEp at hb
        simpa using hb
      have I1 := HB.out.1
      have I2 := HB.out.2
      go_enter Tryd.func23, Tryd.ntmps23
      go_wp2_with (first | (go_at_call 37; refine (isEpoch_any _ _).mono ?_; rintro e w' ⟨rfl, hw⟩; obtain rfl := hw.symm))
      refine (there_any c b false s w HC.out HS.out).mono ?_
      rintro e w1 ⟨rfl, hb1⟩
      have C1 : Hid (Cel w1 c b false) := HC.out.below hb1
      have S1 : Hid (Byt w1 b s) := HS.out.below hb1
      have B1 : Hid (Below w.heap.size w w1) := hb1
      have E1 : Hid (Se5 w1 se) := HE.out.below hb1
      clear hb1 g1 g5 g6 g9 c1
      obtain ⟨y, hy⟩ : ∃ y, newest s.B = y := ⟨_, rfl⟩
      have HY : Hid (newest s.B = y) := hy
      have HYL : Hid (y.n < 4294967296 ∧ y.e < 4294967296 ∧ y.l < 4294967296) := by rw [← hy]; exact newest_lt s.B
      rw [hy]
      clear hy
      have HRO : Hid (R = if oldEp s ep li then (10, s, false) else if y.n = 4294967295 then (6, s, false) else if (putS s (nextNm s ep li)).2 then (0, (putS s (nextNm s ep li)).1, false) else (7, (putS s (nextNm s ep li)).1, true)) := by
        rw [HR.out, ← HY.out]; unfold putE; rw [hb]; exact rfl
      have HOE : Hid (oldEp s ep li = (decide (ep < y.e) || decide (li < y.l))) := by rw [← HY.out]; exact rfl
      clear hb
      unfold nmV
      obtain ⟨w2, hw2⟩ : ∃ w2, w2 = w1.alloc (.cells #[.int .i64 y.n, .int .i64 y.e, .int .i64 y.l] 97) := ⟨_, rfl⟩
      have N2 : Hid (Num3 w2 w1.heap.size y.n y.e y.l) := by rw [hw2]; exact heap_alloc_new w1 _
      have B2 : Hid (Below w1.heap.size w1 w2) := by rw [hw2]; exact aB _ _
      have C2 : Hid (Cel w2 c b false) := C1.out.below B2.out
      have S2 : Hid (Byt w2 b s) := S1.out.below B2.out
      have E2 : Hid (Se5 w2 se) := E1.out.below B2.out
      have hcz := C1.out.lt
      have hbz := S1.out.lt
      have e9 := E2.out.c9
      have e5 := E2.out.c5
      have e6 := E2.out.c6
      have d0 := C2.out.c0
      rw [hw2] at e9 e5 e6 d0
      by_cases ho : oldEp s ep li = true
      · have HRB : Hid (R = (10, s, false)) := by rw [HRO.out, if_pos ho]; exact rfl
        have BW : Hid (Below w.heap.size w w2) := t2 B1.out B2.out
        by_cases h1 : ep < y.e
        · go_wp2_with fail
          go_ret
          rw [← hw2]
          exact ⟨by rw [HRB.out]; rfl, by rw [HRB.out]; exact S2.out, by rw [HRB.out]; exact C2.out, Chg2.of BW.out⟩
        · have h2 : li < y.l := by
            rw [HOE.out, decide_eq_false h1] at ho
            simpa using ho
          go_wp2_with fail
          go_ret
          rw [← hw2]
          exact ⟨by rw [HRB.out]; rfl, by rw [HRB.out]; exact S2.out, by rw [HRB.out]; exact C2.out, Chg2.of BW.out⟩
      · have HRP : Hid (R = if y.n = 4294967295 then (6, s, false) else if (putS s (nextNm s ep li)).2 then (0, (putS s (nextNm s ep li)).1, false) else (7, (putS s (nextNm s ep li)).1, true)) := by rw [HRO.out, if_neg ho]; exact rfl
        have h12 : ¬ ep < y.e ∧ ¬ li < y.l := by
          rw [HOE.out] at ho
          simpa using ho
        obtain ⟨h1, h2⟩ := h12
        clear ho
        by_cases hf : y.n = 4294967295
        · have HRB : Hid (R = (6, s, false)) := by rw [HRP.out, if_pos hf]; exact rfl
          have BW : Hid (Below w.heap.size w w2) := t2 B1.out B2.out
          have hfz : ((y.n : Int) == 4294967295) = true := beq_iff_eq.2 (by omega)
          clear hf
          go_wp2_with fail
          go_ret
          rw [← hw2]
          exact ⟨by rw [HRB.out]; rfl, by rw [HRB.out]; exact S2.out, by rw [HRB.out]; exact C2.out, Chg2.of BW.out⟩
        · have HRF : Hid (R = if (putS s (nextNm s ep li)).2 then (0, (putS s (nextNm s ep li)).1, false) else (7, (putS s (nextNm s ep li)).1, true)) := by rw [HRP.out, if_neg hf]; exact rfl
          have hfz : ((y.n : Int) == 4294967295) = false := beq_eq_false_iff_ne.2 (by omega)
          have HX : Hid (nextNm s ep li = ⟨y.n + 1, ep.toNat, li.toNat⟩) := by unfold nextNm; rw [HY.out]; exact rfl
          rw [HX.out] at HRF
          have HEB : Hid (0 ≤ ep ∧ ep ≤ 1073741824 ∧ 0 ≤ li ∧ li ≤ 1073741824) := by
            have a := HB.out
            unfold isEp at a
            show _ ∧ _
            simp at a
            omega
          have hyn : y.n < 4294967295 := by have := HYL.out.1; omega
          have hyn2 : (y.n : Int) < 4294967295 := by omega
          have HEP : Hid ((ep.toNat : Int) = ep) := (show (ep.toNat : Int) = ep by have := HEB.out; omega)
          have HLI : Hid ((li.toNat : Int) = li) := (show (li.toNat : Int) = li by have := HEB.out; omega)
          obtain ⟨x, hx⟩ : ∃ x : Nm, x = ⟨y.n + 1, ep.toNat, li.toNat⟩ := ⟨_, rfl⟩
          have PU : Hid (∀ w, Byt w b s → Calls Tryd.prog 38 #[.pointer (some ⟨b, 0, none⟩), .agg #[.int .i64 (y.n + 1), .int .i64 ep, .int .i64 li]] w fun e w' => e = .returned (.bool (putS s x).2) ∧ Byt w' b (putS s x).1 ∧ Chg b w w') := fun w S => by
            have := bput_any b x (by rw [hx]; show y.n + 1 < _; omega) (by rw [hx]; show ep.toNat < _; have := HEB.out; omega) (by rw [hx]; show li.toNat < _; have := HEB.out; omega) s w S HL.out
            rw [hx] at this
            unfold nmV at this
            simp only [HEP.out, HLI.out] at this
            rw [hx]
            exact this
          rw [← hx] at HRF
          clear hx HX HRP HRO HOE hf HYL hyn
          have HWR : Hid (IntKind.i64.wrap ((y.n : Int) + 1) = (y.n : Int) + 1) := by show _ = _; rw [IntKind.wrap_i64]; omega
          clear hyn2
          go_upto_region 8 with fail
          go_wp2_with fail
          rw [← hw2]
          have BW : Hid (Below w.heap.size w w2) := t2 B1.out B2.out
          have hqc : w1.heap.size ≠ c := by omega
          have hqb : w1.heap.size ≠ b := by omega
          clear hw2 e9 e5 e6 d0 h1 h2 hfz hcz hbz I1 I2
          generalize w1.heap.size = q at *
          have hS : w2.drew.cell? ⟨c, 0, none⟩ = some (.pointer (some ⟨b, 0, none⟩)) ∧ w2.drew.cell? ⟨q, 0, none⟩ = some (.int .i64 y.n) := ⟨C2.out.c0, N2.out.c0⟩
          have hwr := HWR.out
          go_region_held3 (fun w' => w'.cell? ⟨c, 0, none⟩ = some (.pointer (some ⟨b, 0, none⟩)) ∧ w'.cell? ⟨q, 0, none⟩ = some (.int .i64 y.n)) (first | assumption | exact ⟨C3.out.c0, N3.out.c0⟩)
            (first | (go_at_call 38; refine (PU.out _ (S2.out.drew)).mono ?_; rintro e w3 ⟨rfl, s3, c3⟩; have C3 : Hid (Cel w3 c b false) := (C2.out.below (Below.refl _ _).drew).chg c3 hcb; have N3 : Hid (Num3 w3 q y.n y.e y.l) := (show Num3 w2.drew q y.n y.e y.l from N2.out).chg c3 hqb; have S3 : Hid (Byt w3 b (putS s x).1) := s3; have X3 : Hid (Chg b w w3) := (Chg.of (b := b) (t2 BW.out (Below.refl _ _).drew)).trans c3; have g3 : w3.cell? ⟨2, 0, none⟩ = some (.iface 161 (.pointer (some (se 6)))) := c3.keeps hgb (show w2.drew.cell? _ = _ from E2.out.c6); clear s3 c3))
          have HPX : Hid ((putS s x).2 = (putS s x).2) := rfl
          generalize putS s x = P at *
          obtain ⟨s5, ok⟩ := P
          have d1 := C3.out.c1
          have d2 := C3.out.f1
          cases ok
          · have HRB : Hid (R = (7, s5, true)) := HRF.out
            have g4 : (w3.setCell ⟨c, 1, none⟩ (.bool true)).cell? ⟨2, 0, none⟩ = some (.iface 161 (.pointer (some (se 6)))) := by
              rw [World.cell?_setCell_other _ _ _ _ (by intro e; injection e with e; exact hgc e.symm)]; exact g3
            go_wp2_with fail
            go_ret
            exact ⟨by rw [HRB.out]; rfl, by rw [HRB.out]; exact S3.out.chg (Chg.set c _ _ _) (fun e => hcb e.symm), by rw [HRB.out]; exact C3.out.kill true, ((Chg2.refl b c w).on X3.out (Or.inl rfl)).on (Chg.set c _ _ _) (Or.inr (Or.inl rfl))⟩
          · have HRB : Hid (R = (0, s5, false)) := HRF.out
            go_wp2_with fail
            go_ret
            exact ⟨by rw [HRB.out]; rfl, by rw [HRB.out]; exact S3.out, by rw [HRB.out]; exact C3.out, (Chg2.refl b c w).on X3.out (Or.inl rfl)⟩
    · have HRB : Hid (R = (2, s, false)) := by rw [HR.out]; unfold putE; rw [hb]; exact rfl
      cases h1 : isEp ep
      · go_enter Tryd.func23, Tryd.ntmps23
        go_wp2_with (first | (go_at_call 37; refine (isEpoch_any _ _).mono ?_; rintro e w' ⟨rfl, hw⟩; obtain rfl := hw.symm))
        go_ret
        exact ⟨by rw [HRB.out]; rfl, by rw [HRB.out]; exact HS.out, by rw [HRB.out]; exact HC.out, Chg2.refl _ _ _⟩
      · have h2 : isEp li = false := by
          unfold badEp at hb
          rw [h1] at hb
          simpa using hb
        go_enter Tryd.func23, Tryd.ntmps23
        go_wp2_with (first | (go_at_call 37; refine (isEpoch_any _ _).mono ?_; rintro e w' ⟨rfl, hw⟩; obtain rfl := hw.symm))
        go_ret
        exact ⟨by rw [HRB.out]; rfl, by rw [HRB.out]; exact HS.out, by rw [HRB.out]; exact HC.out, Chg2.refl _ _ _⟩
  · have HRB : Hid (R = (7, s, true)) := HR.out
    go_enter Tryd.func23, Tryd.ntmps23
    go_wp2_with fail
    go_ret
    exact ⟨by rw [HRB.out]; rfl, by rw [HRB.out]; exact HS.out, by rw [HRB.out]; exact HC.out, Chg2.refl _ _ _⟩
end Go.Proofs.YthmnmdikpccenacDoor
