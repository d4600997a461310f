/-
  The law NodeTimes: a flow is there as long as its time is not through behind its last packet, and not longer.
-/
import Derived.Test.YtapdelipmibabaaDoorPoP
import Derived.Test.YtapdelipmibabaaDoorNtA
import Derived.Test.YtapdelipmibabaaDoorKo
import Derived.Test.YtapdelipmibabaaDoorNeP
import Derived.Test.YtapdelipmibabaaDoorKt
namespace Go.Proofs.YtapdelipmibabaaDoor
open Go.RowKit

theorem neq_go {p : Pk} (h : PkOk p.pr p.a1 p.p1 p.a2 p.p2 p.fl) {d : Nat} (hd : d < 2) (u : World) : (binOp .neq 27 (goP p (2000 + (d : Int) * 24)).v (goP p (2000 + (d : Int) * 24)).v).run Tryd.prog u = .ok (.bool false) u := by
  obtain ⟨h1, _, ⟨g5, g6, g7, g8⟩, g9, g10⟩ := h
  exact neq_pkt _ _ _ _ _ _ u (wfi (by show _ ≤ p.pr; omega) (by show p.pr ≤ _; omega)) (wfi (by show _ ≤ (1 : Int); omega) (by show (1 : Int) ≤ _; omega)) (wfi (by show _ ≤ 2000 + (d : Int) * 24; omega) (by show 2000 + (d : Int) * 24 ≤ _; omega)) (wfi (by show _ ≤ p.a2; omega) (by show p.a2 ≤ _; omega)) (wfi (by show _ ≤ p.p2; omega) (by show p.p2 ≤ _; omega)) (wfi (by show _ ≤ p.fl; omega) (by show p.fl ≤ _; omega))
theorem Lt.cup {w0 w : World} {k : Bk} {p : Pk} {low st un : Int} {l : List Rl} {now c c' : Nat} (h : Lt w0 w k p low st un l now c) (hc : c ≤ c') : Lt w0 w k p low st un l now c' := by
  obtain ⟨x, m, n, nd, hm, r⟩ := h; exact ⟨x, m, n, nd, by omega, r⟩
set_option maxRecDepth 100000 in
set_option maxHeartbeats 4000000 in
theorem times_tcp (id pr ia ip fa fp : Int) (hpr : pr = 2) (v : Value) (l : List Int) (s : Nat → Addr) (w : World) (S : SeM w s) (L : IntsI w v l) :
    Calls Tryd.prog 3 #[.int .i64 id, .int .i64 pr, .agg #[.int .i64 ia, .int .i64 ip], .agg #[.int .i64 fa, .int .i64 fp], v] w fun e w' => e = .returned (.bool true) ∧ Below w.heap.size w w' := by
  obtain ⟨sp, cap, rfl, hat⟩ := L
  have HS : Hid (SeM w s) := S
  have HAT : Hid (∀ (i : Nat) x, l[i]? = some x → ∃ b o, sp = some ⟨b, o, none⟩ ∧ w.cell? ⟨b, o + i, none⟩ = some (.int .i64 x) ∧ -9223372036854775808 ≤ x ∧ x ≤ 9223372036854775807) := hat
  clear S hat
  go_enter Tryd.func3, Tryd.ntmps3
  go_wp2_with fail
  have B0 : Hid (Below w.heap.size w ((w.alloc (.cells #[.int .i64 ia, .int .i64 ip] 23)).alloc (.cells #[.int .i64 fa, .int .i64 fp] 23))) := t2 (aB _ _) (aB _ _)
  have E0 : Hid (EnB ((w.alloc (.cells #[.int .i64 ia, .int .i64 ip] 23)).alloc (.cells #[.int .i64 fa, .int .i64 fp] 23)) w.heap.size ia ip fa fp) := enB_new w ia ip fa fp
  generalize (w.alloc (.cells #[.int .i64 ia, .int .i64 ip] 23)).alloc (.cells #[.int .i64 fa, .int .i64 fp] 23) = w0 at *
  generalize w.heap.size = Z0 at E0 ⊢
  refine (wakes_any s w0 (HS.out.below B0.out).n).mono ?_
  rintro e w1 ⟨rfl, hb1⟩
  have B1 : Hid (Below w.heap.size w w1) := t2 B0.out hb1
  obtain ⟨e0, e1, e2, e3⟩ := E0.out.below hb1
  clear hb1 B0 E0
  by_cases hlen : (0 ≤ id ∧ id ≤ 1) ∧ l.length ≤ 12
  · obtain ⟨⟨i0, i1⟩, hl⟩ := hlen
    obtain ⟨d, rfl⟩ : ∃ d : Nat, id = d := ⟨id.toNat, by omega⟩
    have HD : Hid (d < 2) := (by omega : d < 2)
    have HL : Hid (l.length ≤ 12) := hl
    have x0 : ¬ (d : Int) < 0 := by omega
    have x1 : ¬ 1 < (d : Int) := by omega
    have x4 : ¬ (12 : Int) < (l.length : Int) := by omega
    clear i0 i1 hl
    subst hpr
    obtain ⟨p, hpe⟩ : ∃ p : Pk, p = ⟨2, ia, ip, fa, fp, 1⟩ := ⟨_, rfl⟩
    have HPR : Hid (p.pr = 2) := by show _ = _; rw [hpe]
    have HBE : Hid (bgnE p.pr p.fl = 0) := by rw [hpe]; show bgnE 2 1 = 0; decide
    have HBS : Hid (bgnS p.pr p.fl = 1) := by rw [hpe]; show bgnS 2 1 = 1; decide
    have HQ1 : Hid (stay p.pr 1 = 10) := by rw [hpe]; show stay 2 1 = 10; decide
    have HSY : Hid (stay p.pr 1 = 10) := HQ1.out
    have HNG : Hid (nxtG p.pr p.fl = false) := by rw [hpe]; show nxtG 2 1 = false; decide +kernel
    have HNS : Hid (nxtS p.pr 1 p.fl true = 1) := by rw [hpe]; show nxtS 2 1 1 true = 1; decide +kernel
    have P2 : Hid (PkZ (w1.alloc (.cells #[.int .i64 2, .int .i64 ia, .int .i64 ip, .int .i64 fa, .int .i64 fp, .int .i64 1] 27)) w1.heap.size p) := by rw [hpe]; exact PkZ.new w1 ⟨2, ia, ip, fa, fp, 1⟩
    have B2 : Hid (Below w.heap.size w (w1.alloc (.cells #[.int .i64 2, .int .i64 ia, .int .i64 ip, .int .i64 fa, .int .i64 fp, .int .i64 1] 27))) := t2 B1.out (aB _ _)
    go_wp2_with fail
    generalize w1.alloc (.cells #[.int .i64 2, .int .i64 ia, .int .i64 ip, .int .i64 fa, .int .i64 fp, .int .i64 1] 27) = w2 at *
    generalize w1.heap.size = P at *
    refine (perr_any 2 ia ip fa fp 1 w2).mono ?_
    rintro e w3 ⟨rfl, hb3⟩
    have P3 : Hid (PkZ w3 P p) := P2.out.below hb3
    have B3 : Hid (Below w.heap.size w w3) := t2 B2.out hb3
    rw [show pkErr 2 ia ip fa fp 1 = p.err from by rw [hpe]; rfl]
    clear hb3 P2 B2 hpe e0 e1 e2 e3
    by_cases he : p.err = 0
    · skip
      have HPO : Hid (p.err = 0) := he
      have HOK : PkOk p.pr p.a1 p.p1 p.a2 p.p2 p.fl := pkErr_zero.1 he
      have HPP : Hid (In6 p.pr) := In6.small (by have := HOK.proto; omega) (by have := HOK.proto; omega)
      have HP0 : Hid (p.pr ≠ 0) := (by have := HOK.proto; omega : p.pr ≠ 0)
      have HAD : Hid (adm ruL p.pr true p.p2 = true) := adm_one HOK.dst.2.2.1 HOK.dst.2.2.2
      have HNE : Hid (∀ u, (binOp .neq 27 (goP p (2000 + (d : Int) * 24)).v (goP p (2000 + (d : Int) * 24)).v).run Tryd.prog u = .ok (.bool false) u) := fun u => neq_go HOK HD.out u
      rw [he]
      clear he HOK
      go_wp2_with fail
      refine (newBytes_any w3).mono ?_
      rintro e w4 ⟨⟨rfl, y4⟩, b4⟩
      have Y4 : Hid (Byt w4 w3.heap.size new0) := y4
      have B4 : Hid (Below w3.heap.size w3 w4) := b4
      have P4 : Hid (PkZ w4 P p) := P3.out.below b4
      have S3 : Hid (SeM w3 s) := HS.out.below B3.out
      clear y4 b4
      go_wp2_with fail
      have B5 : Hid (Below w3.heap.size w3 (w4.alloc (.cells #[.bool true, .bool true, .int .i64 0, .int .i64 1, .int .i64 65535] 37))) := t2 B4.out (aB _ _)
      have Y5 : Hid (Byt (w4.alloc (.cells #[.bool true, .bool true, .int .i64 0, .int .i64 1, .int .i64 65535] 37)) w3.heap.size new0) := Y4.out.below (aB _ _)
      have R5 : Hid (Sl (w4.alloc (.cells #[.bool true, .bool true, .int .i64 0, .int .i64 1, .int .i64 65535] 37)) (.slice (some ⟨w4.heap.size, 0, none⟩) 1 1) ruL) := ruL_sl w4
      have LS : Hid (w4.heap.size ≠ w3.heap.size) := (by have := Y4.out.lt; omega : w4.heap.size ≠ w3.heap.size)
      generalize w4.alloc (.cells #[.bool true, .bool true, .int .i64 0, .int .i64 1, .int .i64 65535] 37) = w5 at *
      clear Y4 B4
      refine (new_lr S3.out.n d w3.heap.size new0 _ ruL Y5.out (Nat.le_refl _) B5.out Beg.zero HD.out R5.out (fun a n c e => by cases e; exact LS.out) ruL_ok).mono ?_
      rintro e w6 ⟨k, rfl, l6⟩
      have L6 : Hid (Lr w3 w6 k d 0 1 (yNew new0) ruL 0) := l6
      have BG : Hid (Beg (yNew new0) 1 0 1) := ⟨Beg.zero.new.2.1, Beg.zero.new.2.2, by omega, by omega, by omega⟩
      clear l6 Y5 B5 R5 LS
      go_wp2_with fail
      go_loopw [17, 18, 19] (fun t _ _ wr => ∃ j : Nat, j ≤ 10 ∧ t = .int .i64 j ∧ Lr w3 wr k d 0 1 (yNew new0) ruL j) (fun t _ _ _ => 10 - (intOf t).toNat)
      case atStart => exact ⟨0, by omega, rfl, L6.out⟩
      case round =>
        obtain ⟨j, hj, rfl, lr⟩ := hrel
        have LR : Hid (Lr w3 wr k d 0 1 (yNew new0) ruL j) := lr
        clear lr L6
        by_cases hlt : j < 10
        · have j9 : (j : Int) ≤ 9 := by omega
          go_wp2_with fail
          refine (tick_lr S3.out.n LR.out BG.out (by omega)).mono ?_
          rintro e w4 ⟨⟨v, rfl⟩, l4⟩
          have L4 : Hid (Lr w3 w4 k d 0 1 (yNew new0) ruL (j + 1)) := l4
          clear l4 LR
          go_wp2_with fail
          exact ⟨⟨j + 1, by omega, by go_num, L4.out⟩, by simp [intOf]; omega⟩
        · obtain rfl : j = 10 := by omega
          rw [show ((10 : Nat) : Int) = 10 from rfl]
          obtain ⟨q0, q1, q2, q3, q4, q5⟩ := (P3.out.below LR.out.bl).b
          go_wp2_with fail
          clear q0 q1 q2 q3 q4 q5
          refine (inside_first S3.out LR.out p HPO.out HPP.out HBE.out HAD.out ruL_ok).mono ?_
          rw [HBS.out, HQ1.out]
          rintro e w7 ⟨rfl, l7, c7⟩
          have L7 : Hid (Lt w3 w7 k p (2000 + (d : Int) * 24) 1 (10 + 10) ruL 10 1) := l7
          clear l7 c7 LR
          simp only [Pk.v, goP]
          go_wp2_with fail
          have X8 : Hid (PkZ (w7.alloc (.cells #[.int .i64 p.pr, .int .i64 1, .int .i64 (2000 + (d : Int) * 24), .int .i64 p.a2, .int .i64 p.p2, .int .i64 p.fl] 27)) w7.heap.size (goP p (2000 + (d : Int) * 24))) := PkZ.new w7 (goP p (2000 + (d : Int) * 24))
          have L8 : Hid (Lt w3 (w7.alloc (.cells #[.int .i64 p.pr, .int .i64 1, .int .i64 (2000 + (d : Int) * 24), .int .i64 p.a2, .int .i64 p.p2, .int .i64 p.fl] 27)) k p (2000 + (d : Int) * 24) 1 (10 + 10) ruL 10 1) := L7.out.below (aB _ _)
          have HG : Hid (¬ w7.heap.size ∈ k.all) := fun hm => by have := L7.out.lt _ hm; omega
          generalize w7.alloc (.cells #[.int .i64 p.pr, .int .i64 1, .int .i64 (2000 + (d : Int) * 24), .int .i64 p.a2, .int .i64 p.p2, .int .i64 p.fl] 27) = w8 at *
          generalize w7.heap.size = G at *
          clear L7
          go_loopw [21, 22, 23, 24, 25, 26] (fun t _ _ _ _ _ wr => ∃ (i now : Nat) (un : Int), i ≤ l.length ∧ t = .int .i64 i ∧ un = now + 10 ∧ now ≤ 10 + 60 * i ∧ Lt w3 wr k p (2000 + (d : Int) * 24) 1 un ruL now (1 + i) ∧ PkZ wr G (goP p (2000 + (d : Int) * 24))) (fun t _ _ _ _ _ _ => l.length - (intOf t).toNat)
          case atStart => exact ⟨0, 10, 10 + 10, by omega, rfl, rfl, by omega, L8.out, X8.out⟩
          case round =>
            obtain ⟨i, now, un, hi, rfl, hun, hnw, lt, xz⟩ := hrel
            have LT : Hid (Lt w3 wr k p (2000 + (d : Int) * 24) 1 un ruL now (1 + i)) := lt
            have XZ : Hid (PkZ wr G (goP p (2000 + (d : Int) * 24))) := xz
            have hl := HL.out
            clear lt xz L8 X8
            by_cases hlt : i < l.length
            · obtain ⟨A, o, hp, hc, _, _⟩ := HAT.out i l[i] (List.getElem?_eq_getElem hlt)
              generalize l[i] = x at *
              subst hp
              have HC : Hid (w.cell? ⟨A, o + i, none⟩ = some (.int .i64 x)) := hc
              have hc := tk (t2 B3.out LT.out.bl) HC.out
              have i0 : (0 : Int) ≤ (i : Int) := by omega
              have i1 : (i : Int) < (l.length : Int) := by omega
              by_cases hx : x < 0
              · go_wp2_with fail
                exact ⟨⟨i + 1, now, un, by omega, by go_num, hun, by omega, (LT.out.cup (by omega)), XZ.out⟩, by simp [intOf]; omega⟩
              · by_cases hx9 : 10 ≤ x
                · go_wp2_with fail
                  exact ⟨⟨i + 1, now, un, by omega, by go_num, hun, by omega, (LT.out.cup (by omega)), XZ.out⟩, by simp [intOf]; omega⟩
                · obtain ⟨X, rfl⟩ : ∃ X : Nat, x = X := ⟨x.toNat, by omega⟩
                  go_wp2_with fail
                  clear hc
                  go_loopw [22, 23, 24] (fun t _ _ wz => ∃ j : Nat, j ≤ X ∧ t = .int .i64 j ∧ Lt w3 wz k p (2000 + (d : Int) * 24) 1 un ruL (now + j) (1 + i) ∧ PkZ wz G (goP p (2000 + (d : Int) * 24))) (fun t _ _ _ => X - (intOf t).toNat)
                  case atStart => exact ⟨0, by omega, rfl, LT.out, XZ.out⟩
                  case round =>
                    obtain ⟨j, hj, rfl, lj, xj⟩ := hrel
                    have LJ : Hid (Lt w3 wr k p (2000 + (d : Int) * 24) 1 un ruL (now + j) (1 + i)) := lj
                    have XJ : Hid (PkZ wr G (goP p (2000 + (d : Int) * 24))) := xj
                    clear lj xj
                    have hc := tk (t2 B3.out LJ.out.bl) HC.out
                    by_cases hjx : j < X
                    · have j1 : (j : Int) < (X : Int) := by omega
                      go_wp2_with fail
                      refine (tick_lt S3.out LJ.out (by omega) (by omega) (by omega)).mono ?_
                      rintro e w9 ⟨⟨v, rfl⟩, l9, c9⟩
                      have L9 : Hid (Lt w3 w9 k p (2000 + (d : Int) * 24) 1 un ruL (now + j + 1) (1 + i)) := l9
                      have X9 : Hid (PkZ w9 G (goP p (2000 + (d : Int) * 24))) := XJ.out.chgL c9 HG.out
                      clear l9 c9 LJ XJ hc
                      go_wp2_with fail
                      exact ⟨⟨j + 1, by omega, by go_num, L9.out, X9.out⟩, by simp [intOf]; omega⟩
                    · obtain rfl : j = X := by omega
                      obtain ⟨q0, q1, q2, q3, q4, q5⟩ := (P3.out.below LJ.out.bl).b
                      go_wp2_with fail
                      clear q0 q1 q2 q3 q4 q5
                      refine (inside_lt S3.out LJ.out HPO.out HPP.out HP0.out HNG.out HNS.out ruL_ok (by omega) (by omega)).mono ?_
                      rw [HSY.out]
                      rintro e w9 ⟨rfl, l9, c9⟩
                      have L9 : Hid (Lt w3 w9 k p (2000 + (d : Int) * 24) 1 (((now + j : Nat) : Int) + 10) ruL (now + j) (1 + i + 1)) := l9
                      have X9 : Hid (PkZ w9 G (goP p (2000 + (d : Int) * 24))) := XJ.out.chgL c9 HG.out
                      clear l9 c9 LJ XJ hc
                      simp only [Pk.v, goP]
                      obtain ⟨z0, z1, z2, z3, z4, z5⟩ := (X9.out.below (aB w9 (.cells #[.int .i64 p.pr, .int .i64 1, .int .i64 (2000 + (d : Int) * 24), .int .i64 p.a2, .int .i64 p.p2, .int .i64 p.fl] 27))).b
                      have hne := HNE.out (w9.alloc (.cells #[.int .i64 p.pr, .int .i64 1, .int .i64 (2000 + (d : Int) * 24), .int .i64 p.a2, .int .i64 p.p2, .int .i64 p.fl] 27))
                      simp only [Pk.v, goP] at hne z0 z1 z2 z3 z4 z5
                      go_wp2_with fail
                      exact ⟨⟨i + 1, now + j, _, by omega, by go_num, rfl, by omega, (L9.out.below (aB _ _)).cup (c' := 1 + (i + 1)) (by omega), X9.out.below (aB _ _)⟩, by simp [intOf]; omega⟩
            · go_wp2_with fail
              go_loopw [27, 28, 29, 30] (fun t _ _ _ wz => ∃ j : Nat, j ≤ 10 ∧ t = .int .i64 j ∧ ((j < 10 ∧ Lt w3 wz k p (2000 + (d : Int) * 24) 1 un ruL (now + j) (1 + i)) ∨ (j = 10 ∧ Lg w3 wz k))) (fun t _ _ _ _ => 10 - (intOf t).toNat)
              case atStart => exact ⟨0, by omega, rfl, Or.inl ⟨by omega, LT.out⟩⟩
              case round =>
                obtain ⟨j, hj, rfl, hh⟩ := hrel
                rcases hh with ⟨hjt, lj⟩ | ⟨rfl, lg⟩
                · have LJ : Hid (Lt w3 wr k p (2000 + (d : Int) * 24) 1 un ruL (now + j) (1 + i)) := lj
                  clear lj
                  have j1 : (j : Int) < 10 := by omega
                  go_wp2_with fail
                  refine (table_lt LJ.out).mono ?_
                  rintro e w9 ⟨⟨Z, rfl, hz⟩, b9⟩
                  have L9 : Hid (Lt w3 w9 k p (2000 + (d : Int) * 24) 1 un ruL (now + j) (1 + i)) := LJ.out.below b9
                  clear b9 LJ
                  rw [HPR.out] at hz
                  go_wp2_with fail
                  clear hz
                  by_cases hlast : j + 1 < 10
                  · refine (tick_lt S3.out L9.out (by omega) (by omega) (by omega)).mono ?_
                    rintro e w10 ⟨⟨v, rfl⟩, l10, _⟩
                    have L10 : Hid (Lt w3 w10 k p (2000 + (d : Int) * 24) 1 un ruL (now + j + 1) (1 + i)) := l10
                    clear l10 L9
                    go_wp2_with fail
                    exact ⟨⟨j + 1, by omega, by go_num, Or.inl ⟨by omega, L10.out⟩⟩, by simp [intOf]; omega⟩
                  · refine (last_lt S3.out L9.out (by omega) (by omega) (by omega)).mono ?_
                    rintro e w10 ⟨⟨v, rfl⟩, l10⟩
                    have L10 : Hid (Lg w3 w10 k) := l10
                    clear l10 L9
                    go_wp2_with fail
                    exact ⟨⟨j + 1, by omega, by go_num, Or.inr ⟨by omega, L10.out⟩⟩, by simp [intOf]; omega⟩
                · have LG : Hid (Lg w3 wr k) := lg
                  clear lg
                  go_wp2_with fail
                  refine (table_lg LG.out).mono ?_
                  rintro e w9 ⟨⟨Z, rfl, hz⟩, b9⟩
                  have B9 : Hid (Below w3.heap.size w3 w9) := b9
                  clear b9
                  go_wp2_with fail
                  go_ret
                  exact ⟨rfl, t2 B3.out B9.out⟩
    · have hgt : (0 : Int) < (p.err : Int) := by omega
      go_wp2_with fail
      go_ret
      exact ⟨rfl, B3.out⟩
  · have HN : Hid (id < 0 ∨ 1 < id ∨ (12 : Int) < (l.length : Int)) := (by omega : id < 0 ∨ 1 < id ∨ (12 : Int) < (l.length : Int))
    clear hlen
    by_cases x0 : id < 0
    · go_wp2_with fail
      go_ret
      exact ⟨rfl, B1.out⟩
    · by_cases x1 : 1 < id
      · go_wp2_with fail
        go_ret
        exact ⟨rfl, B1.out⟩
      · have x2 : (12 : Int) < (l.length : Int) := by have := HN.out; omega
        go_wp2_with fail
        go_ret
        exact ⟨rfl, B1.out⟩
set_option maxRecDepth 100000 in
set_option maxHeartbeats 4000000 in
theorem times_udp (id pr ia ip fa fp : Int) (hpr : ¬ pr = 2) (v : Value) (l : List Int) (s : Nat → Addr) (w : World) (S : SeM w s) (L : IntsI w v l) :
    Calls Tryd.prog 3 #[.int .i64 id, .int .i64 pr, .agg #[.int .i64 ia, .int .i64 ip], .agg #[.int .i64 fa, .int .i64 fp], v] w fun e w' => e = .returned (.bool true) ∧ Below w.heap.size w w' := by
  obtain ⟨sp, cap, rfl, hat⟩ := L
  have HS : Hid (SeM w s) := S
  have HAT : Hid (∀ (i : Nat) x, l[i]? = some x → ∃ b o, sp = some ⟨b, o, none⟩ ∧ w.cell? ⟨b, o + i, none⟩ = some (.int .i64 x) ∧ -9223372036854775808 ≤ x ∧ x ≤ 9223372036854775807) := hat
  clear S hat
  go_enter Tryd.func3, Tryd.ntmps3
  go_wp2_with fail
  have B0 : Hid (Below w.heap.size w ((w.alloc (.cells #[.int .i64 ia, .int .i64 ip] 23)).alloc (.cells #[.int .i64 fa, .int .i64 fp] 23))) := t2 (aB _ _) (aB _ _)
  have E0 : Hid (EnB ((w.alloc (.cells #[.int .i64 ia, .int .i64 ip] 23)).alloc (.cells #[.int .i64 fa, .int .i64 fp] 23)) w.heap.size ia ip fa fp) := enB_new w ia ip fa fp
  generalize (w.alloc (.cells #[.int .i64 ia, .int .i64 ip] 23)).alloc (.cells #[.int .i64 fa, .int .i64 fp] 23) = w0 at *
  generalize w.heap.size = Z0 at E0 ⊢
  refine (wakes_any s w0 (HS.out.below B0.out).n).mono ?_
  rintro e w1 ⟨rfl, hb1⟩
  have B1 : Hid (Below w.heap.size w w1) := t2 B0.out hb1
  obtain ⟨e0, e1, e2, e3⟩ := E0.out.below hb1
  clear hb1 B0 E0
  by_cases hlen : (0 ≤ id ∧ id ≤ 1) ∧ l.length ≤ 12
  · obtain ⟨⟨i0, i1⟩, hl⟩ := hlen
    obtain ⟨d, rfl⟩ : ∃ d : Nat, id = d := ⟨id.toNat, by omega⟩
    have HD : Hid (d < 2) := (by omega : d < 2)
    have HL : Hid (l.length ≤ 12) := hl
    have x0 : ¬ (d : Int) < 0 := by omega
    have x1 : ¬ 1 < (d : Int) := by omega
    have x4 : ¬ (12 : Int) < (l.length : Int) := by omega
    clear i0 i1 hl
    by_cases hpr1 : pr = 1
    · subst hpr1
      obtain ⟨p, hpe⟩ : ∃ p : Pk, p = ⟨1, ia, ip, fa, fp, 0⟩ := ⟨_, rfl⟩
      have HPR : Hid (p.pr = 1) := by show _ = _; rw [hpe]
      have HBE : Hid (bgnE p.pr p.fl = 0) := by rw [hpe]; show bgnE 1 0 = 0; decide
      have HBS : Hid (bgnS p.pr p.fl = 2) := by rw [hpe]; show bgnS 1 0 = 2; decide
      have HQ1 : Hid (stay p.pr 2 = 60) := by rw [hpe]; show stay 1 2 = 60; decide
      have HSY : Hid (stay p.pr 2 = 60) := HQ1.out
      have HNG : Hid (nxtG p.pr p.fl = false) := by rw [hpe]; show nxtG 1 0 = false; decide +kernel
      have HNS : Hid (nxtS p.pr 2 p.fl true = 2) := by rw [hpe]; show nxtS 1 2 0 true = 2; decide +kernel
      have P2 : Hid (PkZ (w1.alloc (.cells #[.int .i64 1, .int .i64 ia, .int .i64 ip, .int .i64 fa, .int .i64 fp, .int .i64 0] 27)) w1.heap.size p) := by rw [hpe]; exact PkZ.new w1 ⟨1, ia, ip, fa, fp, 0⟩
      have B2 : Hid (Below w.heap.size w (w1.alloc (.cells #[.int .i64 1, .int .i64 ia, .int .i64 ip, .int .i64 fa, .int .i64 fp, .int .i64 0] 27))) := t2 B1.out (aB _ _)
      go_wp2_with fail
      generalize w1.alloc (.cells #[.int .i64 1, .int .i64 ia, .int .i64 ip, .int .i64 fa, .int .i64 fp, .int .i64 0] 27) = w2 at *
      generalize w1.heap.size = P at *
      refine (perr_any 1 ia ip fa fp 0 w2).mono ?_
      rintro e w3 ⟨rfl, hb3⟩
      have P3 : Hid (PkZ w3 P p) := P2.out.below hb3
      have B3 : Hid (Below w.heap.size w w3) := t2 B2.out hb3
      rw [show pkErr 1 ia ip fa fp 0 = p.err from by rw [hpe]; rfl]
      clear hb3 P2 B2 hpe e0 e1 e2 e3
      by_cases he : p.err = 0
      · skip
        have HPO : Hid (p.err = 0) := he
        have HOK : PkOk p.pr p.a1 p.p1 p.a2 p.p2 p.fl := pkErr_zero.1 he
        have HPP : Hid (In6 p.pr) := In6.small (by have := HOK.proto; omega) (by have := HOK.proto; omega)
        have HP0 : Hid (p.pr ≠ 0) := (by have := HOK.proto; omega : p.pr ≠ 0)
        have HAD : Hid (adm ruL p.pr true p.p2 = true) := adm_one HOK.dst.2.2.1 HOK.dst.2.2.2
        have HNE : Hid (∀ u, (binOp .neq 27 (goP p (2000 + (d : Int) * 24)).v (goP p (2000 + (d : Int) * 24)).v).run Tryd.prog u = .ok (.bool false) u) := fun u => neq_go HOK HD.out u
        rw [he]
        clear he HOK
        go_wp2_with fail
        refine (newBytes_any w3).mono ?_
        rintro e w4 ⟨⟨rfl, y4⟩, b4⟩
        have Y4 : Hid (Byt w4 w3.heap.size new0) := y4
        have B4 : Hid (Below w3.heap.size w3 w4) := b4
        have P4 : Hid (PkZ w4 P p) := P3.out.below b4
        have S3 : Hid (SeM w3 s) := HS.out.below B3.out
        clear y4 b4
        go_wp2_with fail
        have B5 : Hid (Below w3.heap.size w3 (w4.alloc (.cells #[.bool true, .bool true, .int .i64 0, .int .i64 1, .int .i64 65535] 37))) := t2 B4.out (aB _ _)
        have Y5 : Hid (Byt (w4.alloc (.cells #[.bool true, .bool true, .int .i64 0, .int .i64 1, .int .i64 65535] 37)) w3.heap.size new0) := Y4.out.below (aB _ _)
        have R5 : Hid (Sl (w4.alloc (.cells #[.bool true, .bool true, .int .i64 0, .int .i64 1, .int .i64 65535] 37)) (.slice (some ⟨w4.heap.size, 0, none⟩) 1 1) ruL) := ruL_sl w4
        have LS : Hid (w4.heap.size ≠ w3.heap.size) := (by have := Y4.out.lt; omega : w4.heap.size ≠ w3.heap.size)
        generalize w4.alloc (.cells #[.bool true, .bool true, .int .i64 0, .int .i64 1, .int .i64 65535] 37) = w5 at *
        clear Y4 B4
        refine (new_lr S3.out.n d w3.heap.size new0 _ ruL Y5.out (Nat.le_refl _) B5.out Beg.zero HD.out R5.out (fun a n c e => by cases e; exact LS.out) ruL_ok).mono ?_
        rintro e w6 ⟨k, rfl, l6⟩
        have L6 : Hid (Lr w3 w6 k d 0 1 (yNew new0) ruL 0) := l6
        have BG : Hid (Beg (yNew new0) 1 0 1) := ⟨Beg.zero.new.2.1, Beg.zero.new.2.2, by omega, by omega, by omega⟩
        clear l6 Y5 B5 R5 LS
        go_wp2_with fail
        go_loopw [17, 18, 19] (fun t _ _ wr => ∃ j : Nat, j ≤ 10 ∧ t = .int .i64 j ∧ Lr w3 wr k d 0 1 (yNew new0) ruL j) (fun t _ _ _ => 10 - (intOf t).toNat)
        case atStart => exact ⟨0, by omega, rfl, L6.out⟩
        case round =>
          obtain ⟨j, hj, rfl, lr⟩ := hrel
          have LR : Hid (Lr w3 wr k d 0 1 (yNew new0) ruL j) := lr
          clear lr L6
          by_cases hlt : j < 10
          · have j9 : (j : Int) ≤ 9 := by omega
            go_wp2_with fail
            refine (tick_lr S3.out.n LR.out BG.out (by omega)).mono ?_
            rintro e w4 ⟨⟨v, rfl⟩, l4⟩
            have L4 : Hid (Lr w3 w4 k d 0 1 (yNew new0) ruL (j + 1)) := l4
            clear l4 LR
            go_wp2_with fail
            exact ⟨⟨j + 1, by omega, by go_num, L4.out⟩, by simp [intOf]; omega⟩
          · obtain rfl : j = 10 := by omega
            rw [show ((10 : Nat) : Int) = 10 from rfl]
            obtain ⟨q0, q1, q2, q3, q4, q5⟩ := (P3.out.below LR.out.bl).b
            go_wp2_with fail
            clear q0 q1 q2 q3 q4 q5
            refine (inside_first S3.out LR.out p HPO.out HPP.out HBE.out HAD.out ruL_ok).mono ?_
            rw [HBS.out, HQ1.out]
            rintro e w7 ⟨rfl, l7, c7⟩
            have L7 : Hid (Lt w3 w7 k p (2000 + (d : Int) * 24) 2 (10 + 60) ruL 10 1) := l7
            clear l7 c7 LR
            simp only [Pk.v, goP]
            go_wp2_with fail
            have X8 : Hid (PkZ (w7.alloc (.cells #[.int .i64 p.pr, .int .i64 1, .int .i64 (2000 + (d : Int) * 24), .int .i64 p.a2, .int .i64 p.p2, .int .i64 p.fl] 27)) w7.heap.size (goP p (2000 + (d : Int) * 24))) := PkZ.new w7 (goP p (2000 + (d : Int) * 24))
            have L8 : Hid (Lt w3 (w7.alloc (.cells #[.int .i64 p.pr, .int .i64 1, .int .i64 (2000 + (d : Int) * 24), .int .i64 p.a2, .int .i64 p.p2, .int .i64 p.fl] 27)) k p (2000 + (d : Int) * 24) 2 (10 + 60) ruL 10 1) := L7.out.below (aB _ _)
            have HG : Hid (¬ w7.heap.size ∈ k.all) := fun hm => by have := L7.out.lt _ hm; omega
            generalize w7.alloc (.cells #[.int .i64 p.pr, .int .i64 1, .int .i64 (2000 + (d : Int) * 24), .int .i64 p.a2, .int .i64 p.p2, .int .i64 p.fl] 27) = w8 at *
            generalize w7.heap.size = G at *
            clear L7
            go_loopw [21, 22, 23, 24, 25, 26] (fun t _ _ _ _ _ wr => ∃ (i now : Nat) (un : Int), i ≤ l.length ∧ t = .int .i64 i ∧ un = now + 60 ∧ now ≤ 10 + 60 * i ∧ Lt w3 wr k p (2000 + (d : Int) * 24) 2 un ruL now (1 + i) ∧ PkZ wr G (goP p (2000 + (d : Int) * 24))) (fun t _ _ _ _ _ _ => l.length - (intOf t).toNat)
            case atStart => exact ⟨0, 10, 10 + 60, by omega, rfl, rfl, by omega, L8.out, X8.out⟩
            case round =>
              obtain ⟨i, now, un, hi, rfl, hun, hnw, lt, xz⟩ := hrel
              have LT : Hid (Lt w3 wr k p (2000 + (d : Int) * 24) 2 un ruL now (1 + i)) := lt
              have XZ : Hid (PkZ wr G (goP p (2000 + (d : Int) * 24))) := xz
              have hl := HL.out
              clear lt xz L8 X8
              by_cases hlt : i < l.length
              · obtain ⟨A, o, hp, hc, _, _⟩ := HAT.out i l[i] (List.getElem?_eq_getElem hlt)
                generalize l[i] = x at *
                subst hp
                have HC : Hid (w.cell? ⟨A, o + i, none⟩ = some (.int .i64 x)) := hc
                have hc := tk (t2 B3.out LT.out.bl) HC.out
                have i0 : (0 : Int) ≤ (i : Int) := by omega
                have i1 : (i : Int) < (l.length : Int) := by omega
                by_cases hx : x < 0
                · go_wp2_with fail
                  exact ⟨⟨i + 1, now, un, by omega, by go_num, hun, by omega, (LT.out.cup (by omega)), XZ.out⟩, by simp [intOf]; omega⟩
                · by_cases hx9 : 60 ≤ x
                  · go_wp2_with fail
                    exact ⟨⟨i + 1, now, un, by omega, by go_num, hun, by omega, (LT.out.cup (by omega)), XZ.out⟩, by simp [intOf]; omega⟩
                  · obtain ⟨X, rfl⟩ : ∃ X : Nat, x = X := ⟨x.toNat, by omega⟩
                    go_wp2_with fail
                    clear hc
                    go_loopw [22, 23, 24] (fun t _ _ wz => ∃ j : Nat, j ≤ X ∧ t = .int .i64 j ∧ Lt w3 wz k p (2000 + (d : Int) * 24) 2 un ruL (now + j) (1 + i) ∧ PkZ wz G (goP p (2000 + (d : Int) * 24))) (fun t _ _ _ => X - (intOf t).toNat)
                    case atStart => exact ⟨0, by omega, rfl, LT.out, XZ.out⟩
                    case round =>
                      obtain ⟨j, hj, rfl, lj, xj⟩ := hrel
                      have LJ : Hid (Lt w3 wr k p (2000 + (d : Int) * 24) 2 un ruL (now + j) (1 + i)) := lj
                      have XJ : Hid (PkZ wr G (goP p (2000 + (d : Int) * 24))) := xj
                      clear lj xj
                      have hc := tk (t2 B3.out LJ.out.bl) HC.out
                      by_cases hjx : j < X
                      · have j1 : (j : Int) < (X : Int) := by omega
                        go_wp2_with fail
                        refine (tick_lt S3.out LJ.out (by omega) (by omega) (by omega)).mono ?_
                        rintro e w9 ⟨⟨v, rfl⟩, l9, c9⟩
                        have L9 : Hid (Lt w3 w9 k p (2000 + (d : Int) * 24) 2 un ruL (now + j + 1) (1 + i)) := l9
                        have X9 : Hid (PkZ w9 G (goP p (2000 + (d : Int) * 24))) := XJ.out.chgL c9 HG.out
                        clear l9 c9 LJ XJ hc
                        go_wp2_with fail
                        exact ⟨⟨j + 1, by omega, by go_num, L9.out, X9.out⟩, by simp [intOf]; omega⟩
                      · obtain rfl : j = X := by omega
                        obtain ⟨q0, q1, q2, q3, q4, q5⟩ := (P3.out.below LJ.out.bl).b
                        go_wp2_with fail
                        clear q0 q1 q2 q3 q4 q5
                        refine (inside_lt S3.out LJ.out HPO.out HPP.out HP0.out HNG.out HNS.out ruL_ok (by omega) (by omega)).mono ?_
                        rw [HSY.out]
                        rintro e w9 ⟨rfl, l9, c9⟩
                        have L9 : Hid (Lt w3 w9 k p (2000 + (d : Int) * 24) 2 (((now + j : Nat) : Int) + 60) ruL (now + j) (1 + i + 1)) := l9
                        have X9 : Hid (PkZ w9 G (goP p (2000 + (d : Int) * 24))) := XJ.out.chgL c9 HG.out
                        clear l9 c9 LJ XJ hc
                        simp only [Pk.v, goP]
                        obtain ⟨z0, z1, z2, z3, z4, z5⟩ := (X9.out.below (aB w9 (.cells #[.int .i64 p.pr, .int .i64 1, .int .i64 (2000 + (d : Int) * 24), .int .i64 p.a2, .int .i64 p.p2, .int .i64 p.fl] 27))).b
                        have hne := HNE.out (w9.alloc (.cells #[.int .i64 p.pr, .int .i64 1, .int .i64 (2000 + (d : Int) * 24), .int .i64 p.a2, .int .i64 p.p2, .int .i64 p.fl] 27))
                        simp only [Pk.v, goP] at hne z0 z1 z2 z3 z4 z5
                        go_wp2_with fail
                        exact ⟨⟨i + 1, now + j, _, by omega, by go_num, rfl, by omega, (L9.out.below (aB _ _)).cup (c' := 1 + (i + 1)) (by omega), X9.out.below (aB _ _)⟩, by simp [intOf]; omega⟩
              · go_wp2_with fail
                go_loopw [27, 28, 29, 30] (fun t _ _ _ wz => ∃ j : Nat, j ≤ 60 ∧ t = .int .i64 j ∧ ((j < 60 ∧ Lt w3 wz k p (2000 + (d : Int) * 24) 2 un ruL (now + j) (1 + i)) ∨ (j = 60 ∧ Lg w3 wz k))) (fun t _ _ _ _ => 60 - (intOf t).toNat)
                case atStart => exact ⟨0, by omega, rfl, Or.inl ⟨by omega, LT.out⟩⟩
                case round =>
                  obtain ⟨j, hj, rfl, hh⟩ := hrel
                  rcases hh with ⟨hjt, lj⟩ | ⟨rfl, lg⟩
                  · have LJ : Hid (Lt w3 wr k p (2000 + (d : Int) * 24) 2 un ruL (now + j) (1 + i)) := lj
                    clear lj
                    have j1 : (j : Int) < 60 := by omega
                    go_wp2_with fail
                    refine (table_lt LJ.out).mono ?_
                    rintro e w9 ⟨⟨Z, rfl, hz⟩, b9⟩
                    have L9 : Hid (Lt w3 w9 k p (2000 + (d : Int) * 24) 2 un ruL (now + j) (1 + i)) := LJ.out.below b9
                    clear b9 LJ
                    rw [HPR.out] at hz
                    go_wp2_with fail
                    clear hz
                    by_cases hlast : j + 1 < 60
                    · refine (tick_lt S3.out L9.out (by omega) (by omega) (by omega)).mono ?_
                      rintro e w10 ⟨⟨v, rfl⟩, l10, _⟩
                      have L10 : Hid (Lt w3 w10 k p (2000 + (d : Int) * 24) 2 un ruL (now + j + 1) (1 + i)) := l10
                      clear l10 L9
                      go_wp2_with fail
                      exact ⟨⟨j + 1, by omega, by go_num, Or.inl ⟨by omega, L10.out⟩⟩, by simp [intOf]; omega⟩
                    · refine (last_lt S3.out L9.out (by omega) (by omega) (by omega)).mono ?_
                      rintro e w10 ⟨⟨v, rfl⟩, l10⟩
                      have L10 : Hid (Lg w3 w10 k) := l10
                      clear l10 L9
                      go_wp2_with fail
                      exact ⟨⟨j + 1, by omega, by go_num, Or.inr ⟨by omega, L10.out⟩⟩, by simp [intOf]; omega⟩
                  · have LG : Hid (Lg w3 wr k) := lg
                    clear lg
                    go_wp2_with fail
                    refine (table_lg LG.out).mono ?_
                    rintro e w9 ⟨⟨Z, rfl, hz⟩, b9⟩
                    have B9 : Hid (Below w3.heap.size w3 w9) := b9
                    clear b9
                    go_wp2_with fail
                    go_ret
                    exact ⟨rfl, t2 B3.out B9.out⟩
      · have hgt : (0 : Int) < (p.err : Int) := by omega
        go_wp2_with fail
        go_ret
        exact ⟨rfl, B3.out⟩
    · have hne2 : (pr == 2) = false := by rw [beq_eq_false_iff_ne]; exact hpr
      have hpe : ¬ pkErr pr ia ip fa fp 0 = 0 := by
        intro h
        have := (pkErr_zero.1 h).proto
        omega
      have B2 : Hid (Below w.heap.size w (w1.alloc (.cells #[.int .i64 pr, .int .i64 ia, .int .i64 ip, .int .i64 fa, .int .i64 fp, .int .i64 0] 27))) := t2 B1.out (aB _ _)
      go_wp2_with fail
      generalize w1.alloc (.cells #[.int .i64 pr, .int .i64 ia, .int .i64 ip, .int .i64 fa, .int .i64 fp, .int .i64 0] 27) = w2 at *
      refine (perr_any pr ia ip fa fp 0 w2).mono ?_
      rintro e w3 ⟨rfl, hb3⟩
      have B3 : Hid (Below w.heap.size w w3) := t2 B2.out hb3
      have hgt : (0 : Int) < (pkErr pr ia ip fa fp 0 : Int) := by omega
      go_wp2_with fail
      go_ret
      exact ⟨rfl, B3.out⟩
  · have HN : Hid (id < 0 ∨ 1 < id ∨ (12 : Int) < (l.length : Int)) := (by omega : id < 0 ∨ 1 < id ∨ (12 : Int) < (l.length : Int))
    clear hlen
    by_cases x0 : id < 0
    · go_wp2_with fail
      go_ret
      exact ⟨rfl, B1.out⟩
    · by_cases x1 : 1 < id
      · go_wp2_with fail
        go_ret
        exact ⟨rfl, B1.out⟩
      · have x2 : (12 : Int) < (l.length : Int) := by have := HN.out; omega
        go_wp2_with fail
        go_ret
        exact ⟨rfl, B1.out⟩
theorem times_law (id pr ia ip fa fp : Int) (v : Value) (l : List Int) (s : Nat → Addr) (w : World) (S : SeM w s) (L : IntsI w v l) :
    Calls Tryd.prog 3 #[.int .i64 id, .int .i64 pr, .agg #[.int .i64 ia, .int .i64 ip], .agg #[.int .i64 fa, .int .i64 fp], v] w fun e w' => e = .returned (.bool true) ∧ Below w.heap.size w w' := by
  by_cases hpr : pr = 2
  · exact times_tcp id pr ia ip fa fp hpr v l s w S L
  · exact times_udp id pr ia ip fa fp hpr v l s w S L
end Go.Proofs.YtapdelipmibabaaDoor
