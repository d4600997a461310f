/-
  The law TableActs, walked.
-/
import Derived.Test.YteiaamboijimnabDoorTxL
import Derived.Deep.CutBlock
namespace Go.Proofs.YteiaamboijimnabDoor
open Go.RowKit

theorem drewN_b (w : World) (m : Nat) : Below w.heap.size w (w.drewN m) := ⟨rfl, rfl, rfl, Nat.le_refl _, fun _ _ => rfl⟩
/-- both tables at the end. -/
structure Re (w W : World) (b m g cap : Nat) (low : Int) (T : Tb) : Prop where
  t : Tab W b low T
  r : RTab W m g cap low T
  b : Below w.heap.size w W
theorem Re.below {w W W' : World} {b m g cap : Nat} {low : Int} {T : Tb} (h : Re w W b m g cap low T) (hb : Below W.heap.size W W') : Re w W' b m g cap low T := ⟨h.t.below hb, h.r.below hb, t2 h.b hb⟩
theorem reS {w W : World} {b m g cap : Nat} {low : Int} {T : Tb} (h : Re w W b m g cap low T) : W.cell? ⟨m, 1, none⟩ = some (.slice (some ⟨g, 0, none⟩) 32 cap) ∧ W.cell? ⟨m, 0, none⟩ = some (.int .i64 low) := ⟨h.r.c1, h.r.c0⟩
theorem cells_re {w W : World} {b m g cap : Nat} {low : Int} {T : Tb} (h : Re w W b m g cap low T) :
    Calls Tryd.prog 26 #[.pointer (some ⟨b, 0, none⟩)] W fun e w' => ∃ Z, e = .returned (.slice (some ⟨Z, 0, none⟩) 32 32) ∧ Sl10 w' Z T ∧ Re w w' b m g cap low T :=
  (cells_any b low T W h.t).mono fun _ _ ⟨he, hc, hb⟩ => ⟨_, he, hc.sl, h.below hb⟩
theorem sameC_re {w W : World} {b m g cap Z ca cb : Nat} {low : Int} {T : Tb} (h : Re w W b m g cap low T) (hZ : Sl10 W Z T) :
    Calls Tryd.prog 25 #[.slice (some ⟨Z, 0, none⟩) 32 ca, .slice (some ⟨g, 0, none⟩) 32 cb] W fun e w' => e = .returned (.bool true) ∧ Re w w' b m g cap low T :=
  (sameC_any Z g ca cb T W hZ h.r.sl).mono fun _ _ ⟨he, hb⟩ => ⟨he, h.below hb⟩
set_option maxRecDepth 100000 in
set_option maxHeartbeats 40000000 in
theorem acts_ok (node : Nat) (v : Value) (l : List Ac) (s : Nat → Addr) (w : World) (S : Sents w s) (I : ActsIn w v l) (hl : l.length ≤ 100) (hn : node < 2) :
    Calls Tryd.prog 3 #[.int .i64 node, v] w fun e w' => e = .returned (.bool true) ∧ Below w.heap.size w w' := by
  have HS : Hid (Sents w s) := S
  obtain ⟨p, cap0, rfl, I0⟩ := I
  have HI : Hid (∀ (i : Nat) a, l[i]? = some a → ∃ b o, p = some ⟨b, o, none⟩ ∧ AcAt w b (o + i * 10) a) := I0
  clear S I0
  have h1 : ¬ (100 : Int) < (l.length : Int) := by omega
  have h2 : ¬ (node : Int) < 0 := by omega
  have h3 : ¬ (1 : Int) < (node : Int) := by omega
  go_enter Tryd.func3, Tryd.ntmps3
  go_wp2_with fail
  refine (listed_any s _ HS.out.se4).mono ?_
  rintro e w1 ⟨rfl, hb1⟩
  have B1 : Hid (Below w.heap.size w w1) := hb1
  clear hb1
  go_wp2_with fail
  refine (new_ok node w1 hn).mono ?_
  rintro e w2 ⟨b, rfl, t2', hbb, hb2⟩
  have T2 : Hid (Tab w2 b (2000 + node * 24) newT) := t2'
  have B2 : Hid (Below w.heap.size w w2) := t2 B1.out hb2
  have HW : Hid (w.heap.size ≤ b) := Nat.le_trans B1.out.size hbb
  have HBL : Hid (b < w2.heap.size) := t2'.lt
  clear t2' hbb hb2 B1
  go_wp2_with fail
  refine (newR_any node w2 hn).mono ?_
  rintro e w3 ⟨⟨m, g, cap, rfl, hm, hg, r3⟩, hb3⟩
  have T3 : Hid (Tab w3 b (2000 + node * 24) newT) := T2.out.below hb3
  have R3 : Hid (RTab w3 m g cap (2000 + node * 24) newT) := r3
  have B3 : Hid (Below w.heap.size w w3) := t2 B2.out hb3
  have D3 : Hid (∀ A, A ≠ b → A ≠ g → Dst w b m g A) := fun A h4 h5 => ⟨HW.out, Nat.le_trans B2.out.size hg, by have := HBL.out; omega, by have := HBL.out; omega, h4, h5⟩
  clear hm hg r3 hb3 T2 B2
  obtain ⟨low, hlow⟩ : ∃ low, low = 2000 + (node : Int) * 24 := ⟨_, rfl⟩
  have hl0 : Hid (0 ≤ low) := by show _ ≤ _; omega
  have hl1 : Hid (low ≤ 100000) := by show _ ≤ _; omega
  rw [← hlow] at T3 R3
  clear hlow
  go_wp2_with fail
  go_loopw [9] (fun t wr => ∃ (j : Nat) (T : Tb), j ≤ l.length ∧ t = .int .i64 j ∧ Vers T j ∧ Tab wr b low T ∧ RTab wr m g cap low T ∧ Below w.heap.size w wr) (fun t _ => l.length - (intOf t).toNat)
  case atStart => exact ⟨0, newT, by omega, rfl, Vers.new, T3.out, R3.out, B3.out⟩
  case round =>
    obtain ⟨j, T, hj, rfl, hve, htb, hrt, hbr⟩ := hrel
    have HV : Hid (Vers T j) := hve
    have HT : Hid (Tab wr b low T) := htb
    have HR : Hid (RTab wr m g cap low T) := hrt
    have HB : Hid (Below w.heap.size w wr) := hbr
    clear hve htb hrt hbr T3 R3 B3
    by_cases hlt : j < l.length
    · have hr : l[j]? = some l[j] := List.getElem?_eq_getElem hlt
      generalize l[j] = a at hr
      obtain ⟨x, o, rfl, ga⟩ := HI.out j a hr
      obtain ⟨c0, c1, c2, c3, c4, c5, c6, c7, c8, c9⟩ := ga.below HB.out
      clear ga HI hr
      have i0 : (0 : Int) ≤ (j : Int) := by omega
      have i1 : (j : Int) < (l.length : Int) := by omega
      have R0 : Hid (Rn w (wr.alloc (.cells #[.string a.ki, .int .i64 a.sl, .int .i64 a.f.pr, .int .i64 a.f.ia, .int .i64 a.f.ip, .int .i64 a.f.fa, .int .i64 a.f.fp, .int .i64 a.f.po, .int .i64 a.f.st, .int .i64 a.f.un] 37)) b m g cap wr.heap.size low T T a) :=
        ⟨HT.out.alloc _, HR.out.below (aB _ _), ⟨(nw _ _ _ _).trans rfl, (nw _ _ _ _).trans rfl, (nw _ _ _ _).trans rfl, (nw _ _ _ _).trans rfl, (nw _ _ _ _).trans rfl, (nw _ _ _ _).trans rfl, (nw _ _ _ _).trans rfl, (nw _ _ _ _).trans rfl, (nw _ _ _ _).trans rfl, (nw _ _ _ _).trans rfl⟩, HB.out.alloc HB.out.size _⟩
      have HD : Hid (Dst w b m g wr.heap.size) := D3.out _ (by have := HT.out.lt; omega) (by have := HR.out.sl.lt; omega)
      go_upto_block 2 with fail
      generalize wr.alloc (.cells #[.string a.ki, .int .i64 a.sl, .int .i64 a.f.pr, .int .i64 a.f.ia, .int .i64 a.f.ip, .int .i64 a.f.fa, .int .i64 a.f.fp, .int .i64 a.f.po, .int .i64 a.f.st, .int .i64 a.f.un] 37) = w4 at *
      generalize wr.heap.size = A at *
      clear c0 c1 c2 c3 c4 c5 c6 c7 c8 c9 HT HR HB
      go_cut [11, 12, 13, 14, 15, 16, 17, 18] (fun _ _ _ _ _ _ _ _ wx => ∃ T', Vers T' (j + 1) ∧ Rn w wx b m g cap A low T' T' a)
      case first =>
        have RD : Rn w w4.drew b m g cap A low T T a := R0.out.below (Below.refl _ _).drew
        have hj1 : j ≤ 100000 := by omega
        have c1 := R0.out.c.c1
        have c2 := R0.out.c.c2
        have c3 := R0.out.c.c3
        have c4 := R0.out.c.c4
        have c5 := R0.out.c.c5
        have c6 := R0.out.c.c6
        have c7 := R0.out.c.c7
        have c8 := R0.out.c.c8
        have c9 := R0.out.c.c9
        rcases qa : (a.ki.toList == [97, 100, 100]) with _ | _
        · rcases qp : (a.ki.toList == [112, 117, 116]) with _ | _
          · rcases qs : (a.ki.toList == [115, 101, 116]) with _ | _
            · rcases qd : (a.ki.toList == [100, 114, 111, 112]) with _ | _
              · rcases qe : (a.ki.toList == [101, 120, 112, 105, 114, 101]) with _ | _
                · as_aux_lemma =>
                    go_wp2_with fail
                    go_meet
                    case rel => exact ⟨T, HV.out.more (by omega), R0.out⟩
                · as_aux_lemma =>
                    go_wp2_with fail
                    go_region_held3 (fun w' => w'.cell? ⟨A, 9, none⟩ = some (.int .i64 a.f.un) ∧ w'.cell? ⟨A, 9, none⟩ = some (.int .i64 a.f.un)) (first | assumption | exact rnE (by assumption)) (first | (go_at_call 17; refine (expire_rn HD.out HV.out hj1 (by assumption) a.f.un).mono ?_; rintro e w5 ⟨v5, rfl, I5, R5⟩) | (go_at_call 18; refine (expireR_rn HD.out HV.out hj1 (by assumption) (by assumption) a.f.un).mono ?_; rintro e w6 ⟨v6, rfl, I6, R6⟩) | (go_at_call 16; refine (sameI_rn (by assumption) (xs := expL T a.f.un 32) (Nat.le_trans (expL_len _ _ _) (by omega)) (by assumption)).mono ?_; rintro e w7 ⟨rfl, R7⟩))
                    go_wp2_with fail
                    go_meet
                    case rel => exact ⟨_, expT_ve HV.out _ _, R7⟩
              · as_aux_lemma =>
                  go_wp2_with fail
                  go_region_held3 (fun w' => w'.cell? ⟨A, 1, none⟩ = some (.int .i64 a.sl) ∧ w'.cell? ⟨A, 1, none⟩ = some (.int .i64 a.sl)) (first | assumption | exact rnD (by assumption)) (first | (go_at_call 14; refine (drop_rn HS.out HD.out HV.out hj1 (by assumption) a.sl).mono ?_; rintro e w5 ⟨rfl, R5⟩) | (go_at_call 15; refine (dropR_rn HD.out HV.out hj1 (by assumption) a.sl).mono ?_; rintro e w6 ⟨rfl, R6⟩) | (go_at_call 6; refine (coded_rn HS.out (by assumption) (slotE T a.sl) (slotE_le _ _)).mono ?_; rintro e w7 ⟨rfl, R7⟩))
                  go_wp2_with fail
                  go_meet
                  case rel => exact ⟨_, HV.out.drop _, R7⟩
            · as_aux_lemma =>
                go_wp2_with fail
                go_region_held3 (fun w' => w'.cell? ⟨A, 1, none⟩ = some (.int .i64 a.sl) ∧ w'.cell? ⟨A, 8, none⟩ = some (.int .i64 a.f.st) ∧ w'.cell? ⟨A, 9, none⟩ = some (.int .i64 a.f.un)) (first | assumption | exact rnS (by assumption)) (first | (go_at_call 12; refine (set_rn HS.out HD.out HV.out hj1 (by assumption) a.sl a.f.st a.f.un).mono ?_; rintro e w5 ⟨rfl, R5⟩) | (go_at_call 13; refine (setR_rn HD.out HV.out hj1 (by assumption) a.sl a.f.st a.f.un).mono ?_; rintro e w6 ⟨rfl, R6⟩) | (go_at_call 6; refine (coded_rn HS.out (by assumption) (slotE T a.sl) (slotE_le _ _)).mono ?_; rintro e w7 ⟨rfl, R7⟩))
                go_wp2_with fail
                go_meet
                case rel => exact ⟨_, HV.out.set _ _ _, R7⟩
          · as_aux_lemma =>
              go_wp2_with fail
              clear c1 c2 c3 c4 c5 c6 c7 c8 c9 qa qp RD
              refine (put_any b low T a.f j s _ (HS.out.below R0.out.b).se4 R0.out.t HV.out (by omega)).mono ?_
              rintro e w5 ⟨rfl, t5, k5⟩
              have R5 : Hid (Rn w w5 b m g cap A low (putT T a.f.pr a.f.ia a.f.ip a.f.fa a.f.fp a.f.po a.f.st a.f.un).2.2 T a) := R0.out.onB HD.out t5 k5
              clear t5 k5 R0
              have HPR : Hid (∀ W, RTab W m g cap low T → Calls Tryd.prog 11 #[.pointer (some ⟨m, 0, none⟩), flowV a.f] W fun e w' => e = .returned (.tuple #[.int .i64 ((putT T a.f.pr a.f.ia a.f.ip a.f.fa a.f.fp a.f.po a.f.st a.f.un).1 : Nat), .int .i64 ((putT T a.f.pr a.f.ia a.f.ip a.f.fa a.f.fp a.f.po a.f.st a.f.un).2.1 : Nat)]) ∧ RTab w' m g cap low (putT T a.f.pr a.f.ia a.f.ip a.f.fa a.f.fp a.f.po a.f.st a.f.un).2.2 ∧ Chg g W w') := fun W r => putR_any m g cap low T a.f j W r HV.out (by omega)
              have V5 : Hid (Vers (putT T a.f.pr a.f.ia a.f.ip a.f.fa a.f.fp a.f.po a.f.st a.f.un).2.2 (j + 1)) := HV.out.put _ _ _ _ _ _ _ _
              have C5 : Hid ((putT T a.f.pr a.f.ia a.f.ip a.f.fa a.f.fp a.f.po a.f.st a.f.un).2.1 ≤ 11) := put_code
              generalize putT T a.f.pr a.f.ia a.f.ip a.f.fa a.f.fp a.f.po a.f.st a.f.un = R at *
              obtain ⟨rk, rc, rT⟩ := R
              simp only at R5 HPR V5 C5 ⊢
              have d2 := R5.out.c.c2
              have d3 := R5.out.c.c3
              have d4 := R5.out.c.c4
              have d5 := R5.out.c.c5
              have d6 := R5.out.c.c6
              have d7 := R5.out.c.c7
              have d8 := R5.out.c.c8
              have d9 := R5.out.c.c9
              have HCod : Hid (∀ W, Rn w W b m g cap A low rT rT a → Calls Tryd.prog 6 #[terr s rc, .int .i64 rc] W fun e w' => e = .returned (.bool true) ∧ Rn w w' b m g cap A low rT rT a) := fun W h => coded_rn HS.out h rc C5.out
              generalize terr s rc = ev at *
              go_wp2_with fail
              clear d2 d3 d4 d5 d6 d7 d8 d9
              refine (HPR.out _ R5.out.r).mono ?_
              rintro e w6 ⟨rfl, t6, k6⟩
              have R6 : Hid (Rn w w6 b m g cap A low rT rT a) := R5.out.onG HD.out t6 k6
              clear t6 k6
              go_wp2_with fail
              refine (HCod.out _ R6.out).mono ?_
              rintro e w7 ⟨rfl, r7⟩
              have R7 : Hid (Rn w w7 b m g cap A low rT rT a) := r7
              have hkk : ((rk : Int) != (rk : Int)) = false := by simp
              clear r7
              go_wp2_with fail
              go_meet
              case rel => exact ⟨rT, V5.out, R7.out⟩
        · as_aux_lemma =>
            go_wp2_with fail
            clear c1 c2 c3 c4 c5 c6 c7 c8 c9 qa RD
            refine (add_any b low T a.f.pr a.f.ia a.f.ip a.f.fa a.f.fp a.f.st a.f.un j s _ (HS.out.below R0.out.b).se4 R0.out.t hl0.out hl1.out HV.out (by omega)).mono ?_
            rintro e w5 ⟨rfl, t5, k5⟩
            have R5 : Hid (Rn w w5 b m g cap A low (addT T low a.f.pr a.f.ia a.f.ip a.f.fa a.f.fp a.f.st a.f.un).2.2 T a) := R0.out.onB HD.out t5 k5
            clear t5 k5 R0
            have HPR : Hid (∀ W, RTab W m g cap low T → Calls Tryd.prog 9 #[.pointer (some ⟨m, 0, none⟩), .int .i64 a.f.pr, .agg #[.int .i64 a.f.ia, .int .i64 a.f.ip], .agg #[.int .i64 a.f.fa, .int .i64 a.f.fp], .int .i64 a.f.st, .int .i64 a.f.un] W fun e w' => e = .returned (.tuple #[.int .i64 ((addT T low a.f.pr a.f.ia a.f.ip a.f.fa a.f.fp a.f.st a.f.un).1 : Nat), .int .i64 ((addT T low a.f.pr a.f.ia a.f.ip a.f.fa a.f.fp a.f.st a.f.un).2.1 : Nat)]) ∧ RTab w' m g cap low (addT T low a.f.pr a.f.ia a.f.ip a.f.fa a.f.fp a.f.st a.f.un).2.2 ∧ Chg g W w') := fun W r => addR_any m g cap low T a.f.pr a.f.ia a.f.ip a.f.fa a.f.fp a.f.st a.f.un j W r hl0.out hl1.out HV.out (by omega)
            have V5 : Hid (Vers (addT T low a.f.pr a.f.ia a.f.ip a.f.fa a.f.fp a.f.st a.f.un).2.2 (j + 1)) := HV.out.add _ _ _ _ _ _ _ _
            have C5 : Hid ((addT T low a.f.pr a.f.ia a.f.ip a.f.fa a.f.fp a.f.st a.f.un).2.1 ≤ 11) := add_code
            generalize addT T low a.f.pr a.f.ia a.f.ip a.f.fa a.f.fp a.f.st a.f.un = R at *
            obtain ⟨rk, rc, rT⟩ := R
            simp only at R5 HPR V5 C5 ⊢
            have d2 := R5.out.c.c2
            have d3 := R5.out.c.c3
            have d4 := R5.out.c.c4
            have d5 := R5.out.c.c5
            have d6 := R5.out.c.c6
            have d7 := R5.out.c.c7
            have d8 := R5.out.c.c8
            have d9 := R5.out.c.c9
            have HCod : Hid (∀ W, Rn w W b m g cap A low rT rT a → Calls Tryd.prog 6 #[terr s rc, .int .i64 rc] W fun e w' => e = .returned (.bool true) ∧ Rn w w' b m g cap A low rT rT a) := fun W h => coded_rn HS.out h rc C5.out
            generalize terr s rc = ev at *
            go_wp2_with fail
            clear d2 d3 d4 d5 d6 d7 d8 d9
            refine (HPR.out _ R5.out.r).mono ?_
            rintro e w6 ⟨rfl, t6, k6⟩
            have R6 : Hid (Rn w w6 b m g cap A low rT rT a) := R5.out.onG HD.out t6 k6
            clear t6 k6
            go_wp2_with fail
            refine (HCod.out _ R6.out).mono ?_
            rintro e w7 ⟨rfl, r7⟩
            have R7 : Hid (Rn w w7 b m g cap A low rT rT a) := r7
            have hkk : ((rk : Int) != (rk : Int)) = false := by simp
            clear r7
            go_wp2_with fail
            go_meet
            case rel => exact ⟨rT, V5.out, R7.out⟩
      case rest =>
        obtain ⟨T', hv', hr'⟩ := hcut
        have HV' : Hid (Vers T' (j + 1)) := hv'
        have R0' : Hid (Rn w wc b m g cap A low T' T' a) := hr'
        clear hv' hr' R0 HV
        have c1 := R0'.out.c.c1
        have c2 := R0'.out.c.c2
        have c3 := R0'.out.c.c3
        have c4 := R0'.out.c.c4
        have c5 := R0'.out.c.c5
        have c6 := R0'.out.c.c6
        have c7 := R0'.out.c.c7
        go_wp2_with fail
        clear c1 c2 c3 c4 c5 c6 c7
        refine (find_any b low T' a.f.pr a.f.ia a.f.ip a.f.fa a.f.fp _ R0'.out.t).mono ?_
        rintro e w5 ⟨rfl, hb5⟩
        have R5 : Hid (Rn w w5 b m g cap A low T' T' a) := R0'.out.below hb5
        clear hb5
        obtain ⟨o1, ho1⟩ : ∃ o1, fst T' (findQ a.f.pr a.f.ia a.f.ip a.f.fa a.f.fp) = o1 := ⟨_, rfl⟩
        have HO1 : Hid (fst T' (findQ a.f.pr a.f.ia a.f.ip a.f.fa a.f.fp) = o1) := ho1
        rw [ho1]
        obtain ⟨k1, hk1⟩ : ∃ k1, ((o1.getD 0 : Nat) : Int) = k1 := ⟨_, rfl⟩
        obtain ⟨is1, hi1⟩ : ∃ is1, o1.isSome = is1 := ⟨_, rfl⟩
        obtain ⟨x1, hx1⟩ : ∃ x1, foundI o1 = x1 := ⟨_, rfl⟩
        rw [hk1, hi1]
        have HK1 : Hid (((o1.getD 0 : Nat) : Int) = k1) := hk1
        have HI1 : Hid (o1.isSome = is1) := hi1
        have HX1 : Hid (foundI o1 = x1) := hx1
        clear ho1 hk1 hi1 hx1
        have c2 := R5.out.c.c2
        have c5 := R5.out.c.c5
        have c6 := R5.out.c.c6
        have c7 := R5.out.c.c7
        go_wp2_with fail
        clear c2 c5 c6 c7
        refine (back_any b low T' a.f.pr a.f.po a.f.fa a.f.fp _ R5.out.t).mono ?_
        rintro e w6 ⟨rfl, hb6⟩
        have R6 : Hid (Rn w w6 b m g cap A low T' T' a) := R5.out.below hb6
        clear hb6
        obtain ⟨o2, ho2⟩ : ∃ o2, fst T' (backQ a.f.pr a.f.po a.f.fa a.f.fp) = o2 := ⟨_, rfl⟩
        have HO2 : Hid (fst T' (backQ a.f.pr a.f.po a.f.fa a.f.fp) = o2) := ho2
        rw [ho2]
        obtain ⟨k2, hk2⟩ : ∃ k2, ((o2.getD 0 : Nat) : Int) = k2 := ⟨_, rfl⟩
        obtain ⟨is2, hi2⟩ : ∃ is2, o2.isSome = is2 := ⟨_, rfl⟩
        obtain ⟨x2, hx2⟩ : ∃ x2, foundI o2 = x2 := ⟨_, rfl⟩
        rw [hk2, hi2]
        have HK2 : Hid (((o2.getD 0 : Nat) : Int) = k2) := hk2
        have HI2 : Hid (o2.isSome = is2) := hi2
        have HX2 : Hid (foundI o2 = x2) := hx2
        have HY1 : Hid (foundI (fst T' (findQ a.f.pr a.f.ia a.f.ip a.f.fa a.f.fp)) = x1) := by show _ = _; rw [HO1.out]; exact HX1.out
        have HY2 : Hid (foundI (fst T' (backQ a.f.pr a.f.po a.f.fa a.f.fp)) = x2) := by show _ = _; rw [HO2.out]; exact HX2.out
        clear ho2 hk2 hi2 hx2 R5
        have RD : Rn w w6.drew b m g cap A low T' T' a := R6.out.below (Below.refl _ _).drew
        have hn1 : (x1 != x1) = false := by simp
        have hn2 : (x2 != x2) = false := by simp
        go_wp2_with fail
        go_region_held3 (fun w' => w'.cell? ⟨A, 2, none⟩ = some (.int .i64 a.f.pr) ∧ w'.cell? ⟨A, 3, none⟩ = some (.int .i64 a.f.ia) ∧ w'.cell? ⟨A, 4, none⟩ = some (.int .i64 a.f.ip) ∧ w'.cell? ⟨A, 5, none⟩ = some (.int .i64 a.f.fa) ∧ w'.cell? ⟨A, 6, none⟩ = some (.int .i64 a.f.fp) ∧ w'.cell? ⟨A, 7, none⟩ = some (.int .i64 a.f.po)) (first | assumption | exact rnF (by assumption)) (first | (go_at_call_of 21 (Value.bool is1); refine (found_rn o1 k1 x1 is1 HK1.out HI1.out HX1.out).mono ?_; rintro e w7 ⟨rfl, rfl⟩) | (go_at_call_of 21 (Value.bool is2); refine (found_rn o2 k2 x2 is2 HK2.out HI2.out HX2.out).mono ?_; rintro e w9 ⟨rfl, rfl⟩) | (go_at_call 22; refine (findR_rn (by assumption) a.f.pr a.f.ia a.f.ip a.f.fa a.f.fp x1 HY1.out).mono ?_; rintro e w8 ⟨rfl, R8⟩) | (go_at_call 23; refine (backR_rn (by assumption) a.f.pr a.f.po a.f.fa a.f.fp x2 HY2.out).mono ?_; rintro e w10 ⟨rfl, R10⟩))
        rename_i hheld
        have R11 : Hid (Rn w w10 b m g cap A low T' T' a) := R10
        clear hheld R8 R10 RD R6 HK1 HI1 HX1 HK2 HI2 HX2 HY1 HY2 HO1 HO2
        by_cases hsl : a.sl < 0 ∨ 32 ≤ a.sl
        · as_aux_lemma =>
            have c1 := R11.out.c.c1
            have HSL : Hid (a.sl < 0 ∨ 32 ≤ a.sl) := hsl
            go_wp2_with fail
            clear c1
            refine (get_bad b a.sl s _ (HS.out.below R11.out.b).se4 HSL.out).mono ?_
            rintro e w11 ⟨rfl, hb11⟩
            have R12 : Hid (Rn w w11 b m g cap A low T' T' a) := R11.out.below hb11
            clear hb11 R11
            obtain ⟨v2, h2'⟩ : ∃ v, terr s 2 = v := ⟨_, rfl⟩
            have H2 : Hid (terr s 2 = v2) := h2'
            simp only [h2']
            clear h2'
            have c1 := R12.out.c.c1
            have hA : A < w11.heap.size := tlt c1
            have hcod := coded_terr 2 (by omega) s (w11.alloc (.cells #[.int .i64 0, .int .i64 0, .int .i64 0, .int .i64 0, .int .i64 0, .int .i64 0, .int .i64 0, .int .i64 0, .int .i64 0, .int .i64 0] 58)) (HS.out.below (t2 R12.out.b (aB _ _)))
            rw [H2.out] at hcod
            have HC : Hid (Calls Tryd.prog 6 #[v2, .int .i64 2] (w11.alloc (.cells #[.int .i64 0, .int .i64 0, .int .i64 0, .int .i64 0, .int .i64 0, .int .i64 0, .int .i64 0, .int .i64 0, .int .i64 0, .int .i64 0] 58)) fun e w' => e = .returned (.bool true) ∧ Below (w11.alloc (.cells #[.int .i64 0, .int .i64 0, .int .i64 0, .int .i64 0, .int .i64 0, .int .i64 0, .int .i64 0, .int .i64 0, .int .i64 0, .int .i64 0] 58)).heap.size (w11.alloc (.cells #[.int .i64 0, .int .i64 0, .int .i64 0, .int .i64 0, .int .i64 0, .int .i64 0, .int .i64 0, .int .i64 0, .int .i64 0, .int .i64 0] 58)) w') := hcod
            clear hcod
            have hq0 : ∀ W : World, (binOp .neq 58 (.agg #[.int .i64 0, .int .i64 0, .int .i64 0, .int .i64 0, .int .i64 0, .int .i64 0, .int .i64 0, .int .i64 0, .int .i64 0, .int .i64 0]) (.agg #[.int .i64 0, .int .i64 0, .int .i64 0, .int .i64 0, .int .i64 0, .int .i64 0, .int .i64 0, .int .i64 0, .int .i64 0, .int .i64 0])).run Tryd.prog W = .ok (.bool false) W := neq_cell 0 noC
            by_cases hneg : a.sl < 0
            · clear hsl
              go_wp2_with fail
              refine HC.out.mono ?_
              rintro e w12 ⟨rfl, hb12⟩
              have R13 : Hid (Rn w w12 b m g cap A low T' T' a) := (R12.out.below (aB _ _)).below hb12
              have z0 : w12.cell? ⟨w11.heap.size, 0, none⟩ = some (.int .i64 0) := tk hb12 ((nw _ _ _ _).trans rfl)
              have z1 : w12.cell? ⟨w11.heap.size, 1, none⟩ = some (.int .i64 0) := tk hb12 ((nw _ _ _ _).trans rfl)
              have z2 : w12.cell? ⟨w11.heap.size, 2, none⟩ = some (.int .i64 0) := tk hb12 ((nw _ _ _ _).trans rfl)
              have z3 : w12.cell? ⟨w11.heap.size, 3, none⟩ = some (.int .i64 0) := tk hb12 ((nw _ _ _ _).trans rfl)
              have z4 : w12.cell? ⟨w11.heap.size, 4, none⟩ = some (.int .i64 0) := tk hb12 ((nw _ _ _ _).trans rfl)
              have z5 : w12.cell? ⟨w11.heap.size, 5, none⟩ = some (.int .i64 0) := tk hb12 ((nw _ _ _ _).trans rfl)
              have z6 : w12.cell? ⟨w11.heap.size, 6, none⟩ = some (.int .i64 0) := tk hb12 ((nw _ _ _ _).trans rfl)
              have z7 : w12.cell? ⟨w11.heap.size, 7, none⟩ = some (.int .i64 0) := tk hb12 ((nw _ _ _ _).trans rfl)
              have z8 : w12.cell? ⟨w11.heap.size, 8, none⟩ = some (.int .i64 0) := tk hb12 ((nw _ _ _ _).trans rfl)
              have z9 : w12.cell? ⟨w11.heap.size, 9, none⟩ = some (.int .i64 0) := tk hb12 ((nw _ _ _ _).trans rfl)
              clear hb12
              go_wp2_with fail
              go_roundw
              case rel => exact ⟨j + 1, T', by omega, by go_num, HV'.out, R13.out.t, R13.out.r, R13.out.b⟩
              case measure => simp [intOf]; omega
            · have hpos : 32 ≤ a.sl := by omega
              clear hsl
              go_wp2_with fail
              refine HC.out.mono ?_
              rintro e w12 ⟨rfl, hb12⟩
              have R13 : Hid (Rn w w12 b m g cap A low T' T' a) := (R12.out.below (aB _ _)).below hb12
              have z0 : w12.cell? ⟨w11.heap.size, 0, none⟩ = some (.int .i64 0) := tk hb12 ((nw _ _ _ _).trans rfl)
              have z1 : w12.cell? ⟨w11.heap.size, 1, none⟩ = some (.int .i64 0) := tk hb12 ((nw _ _ _ _).trans rfl)
              have z2 : w12.cell? ⟨w11.heap.size, 2, none⟩ = some (.int .i64 0) := tk hb12 ((nw _ _ _ _).trans rfl)
              have z3 : w12.cell? ⟨w11.heap.size, 3, none⟩ = some (.int .i64 0) := tk hb12 ((nw _ _ _ _).trans rfl)
              have z4 : w12.cell? ⟨w11.heap.size, 4, none⟩ = some (.int .i64 0) := tk hb12 ((nw _ _ _ _).trans rfl)
              have z5 : w12.cell? ⟨w11.heap.size, 5, none⟩ = some (.int .i64 0) := tk hb12 ((nw _ _ _ _).trans rfl)
              have z6 : w12.cell? ⟨w11.heap.size, 6, none⟩ = some (.int .i64 0) := tk hb12 ((nw _ _ _ _).trans rfl)
              have z7 : w12.cell? ⟨w11.heap.size, 7, none⟩ = some (.int .i64 0) := tk hb12 ((nw _ _ _ _).trans rfl)
              have z8 : w12.cell? ⟨w11.heap.size, 8, none⟩ = some (.int .i64 0) := tk hb12 ((nw _ _ _ _).trans rfl)
              have z9 : w12.cell? ⟨w11.heap.size, 9, none⟩ = some (.int .i64 0) := tk hb12 ((nw _ _ _ _).trans rfl)
              clear hb12
              go_wp2_with fail
              go_roundw
              case rel => exact ⟨j + 1, T', by omega, by go_num, HV'.out, R13.out.t, R13.out.r, R13.out.b⟩
              case measure => simp [intOf]; omega
        · as_aux_lemma =>
            obtain ⟨n, hn'⟩ : ∃ n : Nat, a.sl = n := ⟨a.sl.toNat, by omega⟩
            have hn32 : n < 32 := by omega
            have HNn : Hid (a.sl = (n : Int)) := hn'
            have c1 : w10.cell? ⟨A, 1, none⟩ = some (.int .i64 n) := by rw [← hn']; exact R11.out.c.c1
            have m0 : ¬ (n : Int) < 0 := by omega
            have m2 : ¬ 32 ≤ (n : Int) := by omega
            clear hsl hn'
            go_wp2_with fail
            clear c1
            refine (get_ok b low T' n _ R11.out.t hn32).mono ?_
            rintro e w11 ⟨rfl, hb11⟩
            have R12 : Hid (Rn w w11 b m g cap A low T' T' a) := R11.out.below hb11
            clear hb11 R11
            obtain ⟨C, hC⟩ : ∃ C, C = T' n := ⟨_, rfl⟩
            rw [← hC]
            have HCn : Hid (C = T' n) := hC
            clear hC
            simp only [cellV]
            have R13 : Hid (Rn w (w11.alloc (.cells #[.int .i64 n, .int .i64 C.ve, .int .i64 C.pr, .int .i64 C.ia, .int .i64 C.ip, .int .i64 C.fa, .int .i64 C.fp, .int .i64 C.po, .int .i64 C.st, .int .i64 C.un] 58)) b m g cap A low T' T' a) := R12.out.below (aB _ _)
            have HCB : Hid (∀ k v, #[.int .i64 n, .int .i64 C.ve, .int .i64 C.pr, .int .i64 C.ia, .int .i64 C.ip, .int .i64 C.fa, .int .i64 C.fp, .int .i64 C.po, .int .i64 C.st, .int .i64 C.un][k]? = some v → (w11.alloc (.cells #[.int .i64 n, .int .i64 C.ve, .int .i64 C.pr, .int .i64 C.ia, .int .i64 C.ip, .int .i64 C.fa, .int .i64 C.fp, .int .i64 C.po, .int .i64 C.st, .int .i64 C.un] 58)).cell? ⟨w11.heap.size, k, none⟩ = some v) := fun k v h => (nw _ _ _ _).trans h
            have c1 : w11.cell? ⟨A, 1, none⟩ = some (.int .i64 n) := by rw [← HNn.out]; exact R12.out.c.c1
            have hA : A < w11.heap.size := tlt c1
            have c1' : (w11.alloc (.cells #[.int .i64 n, .int .i64 C.ve, .int .i64 C.pr, .int .i64 C.ia, .int .i64 C.ip, .int .i64 C.fa, .int .i64 C.fp, .int .i64 C.po, .int .i64 C.st, .int .i64 C.un] 58)).cell? ⟨A, 1, none⟩ = some (.int .i64 n) := tk (aB _ _) c1
            go_upto_region 42 with fail
            generalize w11.alloc (.cells #[.int .i64 n, .int .i64 C.ve, .int .i64 C.pr, .int .i64 C.ia, .int .i64 C.ip, .int .i64 C.fa, .int .i64 C.fp, .int .i64 C.po, .int .i64 C.st, .int .i64 C.un] 58) = W at *
            generalize w11.heap.size = Y at *
            have q1 := R13.out.r.c1
            have y0 : W.cell? ⟨Y, 0, none⟩ = some (.int .i64 n) := HCB.out _ _ rfl
            have y1 : W.cell? ⟨Y, 1, none⟩ = some (.int .i64 C.ve) := HCB.out _ _ rfl
            have y2 : W.cell? ⟨Y, 2, none⟩ = some (.int .i64 C.pr) := HCB.out _ _ rfl
            have y3 : W.cell? ⟨Y, 3, none⟩ = some (.int .i64 C.ia) := HCB.out _ _ rfl
            have y4 : W.cell? ⟨Y, 4, none⟩ = some (.int .i64 C.ip) := HCB.out _ _ rfl
            have y5 : W.cell? ⟨Y, 5, none⟩ = some (.int .i64 C.fa) := HCB.out _ _ rfl
            have y6 : W.cell? ⟨Y, 6, none⟩ = some (.int .i64 C.fp) := HCB.out _ _ rfl
            have y7 : W.cell? ⟨Y, 7, none⟩ = some (.int .i64 C.po) := HCB.out _ _ rfl
            have y8 : W.cell? ⟨Y, 8, none⟩ = some (.int .i64 C.st) := HCB.out _ _ rfl
            have y9 : W.cell? ⟨Y, 9, none⟩ = some (.int .i64 C.un) := HCB.out _ _ rfl
            have g0 := R13.out.r.sl.at' (i := n) (k := 0) hn32 (by omega)
            have g1 := R13.out.r.sl.at' (i := n) (k := 1) hn32 (by omega)
            have g2 := R13.out.r.sl.at' (i := n) (k := 2) hn32 (by omega)
            have g3 := R13.out.r.sl.at' (i := n) (k := 3) hn32 (by omega)
            have g4 := R13.out.r.sl.at' (i := n) (k := 4) hn32 (by omega)
            have g5 := R13.out.r.sl.at' (i := n) (k := 5) hn32 (by omega)
            have g6 := R13.out.r.sl.at' (i := n) (k := 6) hn32 (by omega)
            have g7 := R13.out.r.sl.at' (i := n) (k := 7) hn32 (by omega)
            have g8 := R13.out.r.sl.at' (i := n) (k := 8) hn32 (by omega)
            have g9 := R13.out.r.sl.at' (i := n) (k := 9) hn32 (by omega)
            rw [← HCn.out] at g0 g1 g2 g3 g4 g5 g6 g7 g8 g9
            simp only [Ce.get, Nat.add_zero] at g0 g1 g2 g3 g4 g5 g6 g7 g8 g9
            have m3 : (0 : Int) ≤ (n : Int) := by omega
            have m4 : (n : Int) < 32 := by omega
            have hq : ∀ W : World, (binOp .neq 58 (.agg #[.int .i64 n, .int .i64 C.ve, .int .i64 C.pr, .int .i64 C.ia, .int .i64 C.ip, .int .i64 C.fa, .int .i64 C.fp, .int .i64 C.po, .int .i64 C.st, .int .i64 C.un]) (.agg #[.int .i64 n, .int .i64 C.ve, .int .i64 C.pr, .int .i64 C.ia, .int .i64 C.ip, .int .i64 C.fa, .int .i64 C.fp, .int .i64 C.po, .int .i64 C.st, .int .i64 C.un])).run Tryd.prog W = .ok (.bool false) W := neq_cell _ _
            clear c1 hA HCB
            go_quiet (fail)
            have R15 : Hid (Rn w (W.drewN nq) b m g cap A low T' T' a) := R13.out.below (drewN_b W nq)
            generalize W.drewN nq = W' at *
            go_wp2_with fail
            go_roundw
            case rel => exact ⟨j + 1, T', by omega, by go_num, HV'.out, R15.out.t, R15.out.r, R15.out.b⟩
            case measure => simp [intOf]; omega
    · as_aux_lemma =>
        have hle : ¬ (j : Int) < (l.length : Int) := by omega
        have hRD : Re w wr.drew b m g cap low T := ⟨HT.out.drew, HR.out.below (Below.refl _ _).drew, HB.out.drew⟩
        have q1 := HR.out.c1
        go_wp2_with fail
        go_region_held3 (fun w' => w'.cell? ⟨m, 1, none⟩ = some (.slice (some ⟨g, 0, none⟩) 32 cap) ∧ w'.cell? ⟨m, 0, none⟩ = some (.int .i64 low)) (first | assumption | exact reS (by assumption)) (first | (go_at_call 26; refine (cells_re (by assumption)).mono ?_; rintro e w5 ⟨Z, rfl, H5, R5⟩) | (go_at_call 25; refine (sameC_re (by assumption) (by assumption)).mono ?_; rintro e w6 ⟨rfl, R6⟩))
        go_wp2_with fail
        go_ret
        exact ⟨rfl, R6.b⟩
theorem acts_any (node : Int) (v : Value) (l : List Ac) (s : Nat → Addr) (w : World) (S : Sents w s) (I : ActsIn w v l) :
    Calls Tryd.prog 3 #[.int .i64 node, v] w fun e w' => e = .returned (.bool true) ∧ Below w.heap.size w w' := by
  by_cases h : 100 < l.length
  · exact acts_long node v l s w S I h
  by_cases h2 : node < 0 ∨ 1 < node
  · exact acts_bad node v l s w S I (by omega) h2
  · obtain ⟨n, rfl⟩ : ∃ n : Nat, node = n := ⟨node.toNat, by omega⟩
    exact acts_ok n v l s w S I (by omega) (by omega)
end Go.Proofs.YteiaamboijimnabDoor
