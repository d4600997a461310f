/-
  The law PlayAgain: the same script makes the same play; cut in two it is the same.
-/
import Derived.Test.YtdghkkpncgljoaaGreatDoorKt
import Derived.Test.YtdghkkpncgljoaaGreatDoorKh
import Derived.Test.YtdghkkpncgljoaaGreatDoorKn
import Derived.Test.YtdghkkpncgljoaaGreatDoorKm
import Derived.Deep.RegionHeld3
namespace Go.Proofs.YtdghkkpncgljoaaGreatDoor
open Go.RowKit

theorem fbadP {l : List Rl} (h : ¬ RulesOk l) : (faultOf l).1 = 2 := by
  unfold faultOf
  split
  · rfl
  · rename_i h20
    cases hc : chkAt l 0 with
    | none => exact absurd ⟨by omega, hc⟩ h
    | some i => rfl
theorem flt_field (a b : Int) (w : World) : (Instr.field 26 (.agg #[.int .i64 a, .int .i64 b]) 0).run Tryz.prog w = .ok (.int .i64 a) w := by kernel_rfl
set_option maxRecDepth 100000 in
set_option maxHeartbeats 8000000 in
theorem pagain_law (v0 : Value) (rl : List Rl) (v1 : Value) (xs : List Int) (cut : Int) (s : Nat → Addr) (w : World) (S : Sents w s) (F : PyF w) (R : Sl w v0 rl) (L : IntsC w v1 xs) :
    Calls Tryz.prog 3 #[v0, v1, .int .i64 cut] w fun e w' => e = .returned (.bool true) ∧ Below w.heap.size w w' := by
  obtain ⟨rp, rc, rfl, hrl⟩ := R.open
  obtain ⟨p, cap, rfl, hlc, hpn, hl⟩ := L
  have HS : Hid (Sents w s) := S
  have HF : Hid (PyF w) := F
  have HR : Hid (Sl w (.slice rp rl.length rc) rl ∧ Rul w rp rl) := ⟨R, hrl⟩
  have HL : Hid (xs.length ≤ cap ∧ (p = none → cap = 0) ∧ ∀ (i : Nat) x, xs[i]? = some x → ∃ b o, p = some ⟨b, o, none⟩ ∧ w.cell? ⟨b, o + i, none⟩ = some (.int .i64 x) ∧ -9223372036854775808 ≤ x ∧ x ≤ 9223372036854775807) := ⟨hlc, hpn, hl⟩
  clear S F R hrl hlc hpn hl
  go_enter Tryz.func3, Tryz.ntmps3
  go_wp2_with fail
  refine (born_any HS.out.m).mono ?_
  rintro e w2 ⟨rfl, b2⟩
  have B2 : Hid (Below w.heap.size w w2) := b2
  clear b2
  by_cases hall : rl.length ≤ 30 ∧ xs.length ≤ 200 ∧ 0 ≤ cut ∧ cut ≤ xs.length
  rotate_left
  · have hor : (30 : Int) < (rl.length : Int) ∨ ((rl.length : Int) ≤ 30 ∧ ((200 : Int) < (xs.length : Int) ∨ ((xs.length : Int) ≤ 200 ∧ (cut < 0 ∨ (0 ≤ cut ∧ (xs.length : Int) < cut))))) := by omega
    clear hall
    rcases hor with h | ⟨h1, h | ⟨h2, h | ⟨h3, h⟩⟩⟩
    all_goals
      go_wp2_with fail
      go_ret
      exact ⟨rfl, B2.out⟩
  · obtain ⟨c, rfl⟩ : ∃ c : Nat, cut = c := ⟨cut.toNat, by omega⟩
    have HN : Hid (rl.length ≤ 30 ∧ xs.length ≤ 200 ∧ c ≤ xs.length) := ⟨hall.1, hall.2.1, by omega⟩
    have n1 : ¬ (30 : Int) < (rl.length : Int) := by omega
    have n2 : ¬ (200 : Int) < (xs.length : Int) := by omega
    have n3 : ¬ (c : Int) < 0 := by omega
    have n4 : ¬ (xs.length : Int) < (c : Int) := by omega
    clear hall
    go_wp2_with fail
    refine (rfault_any rp rl rc w2 (fun i r hr => ?_) (by have := HN.out; omega)).mono ?_
    · obtain ⟨b, o, e, h0, h1, h2, h3, h4⟩ := HR.out.2 i r hr
      exact ⟨b, o, e, tk B2.out h0, tk B2.out h1, tk B2.out h2, tk B2.out h3, tk B2.out h4⟩
    rintro e w3 ⟨rfl, b3⟩
    have B3 : Hid (Below w.heap.size w w3) := t2 B2.out b3
    clear b3 B2
    have d1 : decide ((30 : Int) < (rl.length : Int)) = false := decide_eq_false (by omega)
    have d2 : decide ((200 : Int) < (xs.length : Int)) = false := decide_eq_false (by omega)
    have d3 : decide ((c : Int) < 0) = false := decide_eq_false (by omega)
    have d4 : decide (xs.length < c) = false := decide_eq_false (by omega)
    simp only [d1, d2, d3, d4, Bool.or_self]
    clear d1 d2 d3 d4 n1 n2 n3 n4
    by_cases hok : RulesOk rl
    rotate_left
    · have hf := fbadP hok
      rw [hf]
      have hpt := flt_field 2 (faultOf rl).2 w3
      go_wp2_with fail
      go_ret
      exact ⟨rfl, B3.out⟩
    have hf : faultOf rl = (0, -1) := by unfold faultOf; rw [if_neg (by have := hok.1; omega), hok.2]
    rw [hf]
    have hpt := flt_field 0 (-1) w3
    simp only
    have HOK : Hid (RulesOk rl) := hok
    clear hf hok
    go_wp2_with fail
    refine (own_at _ rl w3 (HR.out.1.below B3.out) (by have := HN.out; omega)).mono ?_
    rintro e w4 ⟨⟨v4, rfl, s4, a4⟩, b4⟩
    have B4 : Hid (Below w.heap.size w w4) := t2 B3.out b4
    have S4 : Hid (Sents w4 s) := HS.out.below B4.out
    have F4 : Hid (PyF w4) := HF.out.below B4.out
    have R4 : Hid (Sl w4 v4 rl ∧ ∀ a n c, v4 = .slice (some a) n c → a.block < w4.heap.size) := ⟨s4, fun a n c e => (a4 a n c e).2⟩
    clear s4 a4 b4
    go_wp2_with fail
    refine (new_wdT S4.out.m v4 rl R4.out.1 R4.out.2 (by have := HN.out; omega)).mono ?_
    rintro e w5 hcase
    rcases hcase with ⟨-, K, rfl, wd, hyk, -⟩ | ⟨hno, -⟩
    rotate_left
    · exact absurd HOK.out hno
    have WA : Hid (Wd w4 w5 K (Wo.born rl) 0 ∧ ∀ i, i < 2 → ∃ b, K.yk i = some b) := ⟨wd, hyk⟩
    clear wd hyk
    go_wp2_with fail
    refine (own_at _ rl w5 (HR.out.1.below (t2 B4.out WA.out.1.bl)) (by have := HN.out; omega)).mono ?_
    rintro e w6 ⟨⟨v6, rfl, s6, a6⟩, b6⟩
    have WA6 : Hid (Wd w4 w6 K (Wo.born rl) 0) := WA.out.1.below b6
    have R6 : Hid (Sl w6 v6 rl ∧ ∀ a n c, v6 = .slice (some a) n c → a.block < w6.heap.size) := ⟨s6, fun a n c e => (a6 a n c e).2⟩
    clear s6 a6 b6
    go_wp2_with fail
    refine (new_wdT (S4.out.below WA6.out.bl).m v6 rl R6.out.1 R6.out.2 (by have := HN.out; omega)).mono ?_
    rintro e w7 hcase
    rcases hcase with ⟨-, L, rfl, wd, hyk, low⟩ | ⟨hno, -⟩
    rotate_left
    · exact absurd HOK.out hno
    have T7 : Hid (TW w4 w7 K.wb L.wb (Wo.born rl) (Wo.born rl) 0 0 []) := ⟨K, L, WA6.out.below wd.bl, wd.rebase (t2 WA6.out.bl wd.bl) (fun b hb => low b (Nat.lt_of_lt_of_le hb WA6.out.bl.size)), Apt.born WA6.out low (Nat.le_refl _), rfl, rfl, WA.out.2, hyk, fun z hz => by cases hz⟩
    clear wd hyk low WA WA6 R4 R6
    generalize K.wb = wa at *
    generalize L.wb = wb at *
    clear K L
    have hm : Hid (∀ x ∈ xs, x ≤ 9223372036854775807) := fun x hx => by
      obtain ⟨j, hj⟩ := List.getElem?_of_mem hx
      obtain ⟨_, _, _, _, _, h⟩ := HL.out.2.2 j x hj
      exact h
    have hrd : Hid (∀ W, Below w4.heap.size w4 W → RdN W p xs) := fun W hW j x hj => by
      obtain ⟨b, o, e, h, _, _⟩ := HL.out.2.2 j x hj
      exact ⟨b, o, e, tk (t2 B4.out hW) h⟩
    obtain ⟨p8, c8, w8, Z8, hr8, hc8, t8, r8, m8, hs8⟩ := T7.out.script 23 p cap xs (hrd.out w7 T7.out.bl) HL.out.2.1 hm.out (by have := HN.out; omega)
    have T8 : Hid (TW w4 w8 wa wb (Wo.born rl) (Wo.born rl) 0 0 Z8 ∧ RdO w4 w8 Z8 p8 xs) := ⟨t8, r8⟩
    clear t8 r8 m8 hs8
    go_wp2_with (at_builtin; refine wpList_append_eq rfl _ _ 23 rfl _ _ _ _ rfl rfl hr8 ?_)
    refine (T8.out.1.run2 S4.out F4.out (In.born HOK.out) xs (by have := HN.out; omega) (by have := HN.out; omega) (by have := HN.out; omega) p8 _ c8 rfl hc8 T8.out.2).mono ?_
    rintro e w9 ⟨Z1, rfl, hz1, -, t9⟩
    have T9 : Hid (TW w4 w9 wa wb (runW (Wo.born rl) xs) (Wo.born rl) (0 + 10 * xs.length) 0 ((Z1, .cells (ansA (runA (Wo.born rl) xs) (runA (Wo.born rl) xs).length) 3 (0, 0)) :: Z8)) := t9
    have hZ1 : Hid (w8.heap.size ≤ Z1) := hz1
    clear t9 hz1 T7 T8 hr8 hc8
    cases p with
    | none =>
      obtain rfl : xs = [] := List.length_eq_zero_iff.1 (by have := HL.out.1; have := HL.out.2.1 rfl; omega)
      obtain rfl : cap = 0 := HL.out.2.1 rfl
      obtain rfl : c = 0 := by have := HN.out.2.2; simpa using this
      have T9' : Hid (TW w4 w9 wa wb (Wo.born rl) (Wo.born rl) 0 0 ((Z1, .cells (ansA [] 0) 3 (0, 0)) :: Z8)) := T9.out
      clear T9 HL hrd hm
      rw [show (runA (Wo.born rl) ([] : List Int)).length = 0 from rfl]
      rw [show ([] : List Int).length = 0 from rfl]
      go_wp2_with fail
      refine (T9'.out.symm.run2 S4.out F4.out (In.born HOK.out) [] (by simp) (by simp) (by simp) none _ 0 rfl (by simp) (fun j x hx => by simp at hx)).mono ?_
      rintro e w11 ⟨Z2, rfl, hz2, hI11, t11⟩
      have T11 : Hid (TW w4 w11 wb wa (Wo.born rl) (Wo.born rl) 0 0 ((Z2, .cells (ansA [] 0) 3 (0, 0)) :: (Z1, .cells (ansA [] 0) 3 (0, 0)) :: Z8)) := t11
      have hZ2 : Hid (w9.heap.size ≤ Z2 ∧ Z1 < w9.heap.size) := ⟨hz2, heap_lt (T9'.out.at' (List.mem_cons_self ..))⟩
      clear hz2 hI11 t11
      rw [show (runA (Wo.born rl) ([] : List Int)).length = 0 from rfl]
      go_wp2_with fail
      refine (T11.out.run2 S4.out F4.out (In.born HOK.out) [] (by simp) (by simp) (by simp) none _ 0 rfl (by simp) (fun j x hx => by simp at hx)).mono ?_
      rintro e w12 ⟨Z3, rfl, hz3, -, t12⟩
      have t12' : TW w4 w12 wb wa (Wo.born rl) (Wo.born rl) 0 0 ((Z3, .cells (ansA [] ([] : List Int).length) 3 (0, 0)) :: (Z2, .cells (ansA [] ([] : List Int).length) 3 (0, 0)) :: (Z1, .cells (ansA [] ([] : List Int).length) 3 (0, 0)) :: Z8) := t12
      obtain ⟨p13, c13, w13, hr13, rd13, t13⟩ := t12'.join 23 (List.mem_cons_of_mem _ (List.mem_cons_of_mem _ (List.mem_cons_self ..))) (List.mem_cons_of_mem _ (List.mem_cons_self ..)) (List.mem_cons_self ..) (by have := hZ2.out; omega) (by have := T9'.out.bl.size; have := hZ2.out; omega) (by simp)
      rw [show ([] : List Int) ++ [] = [] from rfl] at hr13 rd13
      have T13 : Hid (TW w4 w13 wb wa (Wo.born rl) (Wo.born rl) 0 0 [(Z1, .cells (ansA ([] : List Int) ([] : List Int).length) 3 (0, 0))]) := t13
      have RD : Hid (RdN w13 (some ⟨Z1, 0, none⟩) ([] : List Int) ∧ RdN w13 p13 ([] : List Int) ∧ ([] : List Int).length ≤ 3000) := ⟨ans_rd (t13.at' (List.mem_cons_self ..)), rd13, by simp⟩
      rw [show ([] : List Int).length = 0 from rfl] at hr13
      clear t12 t12' t13 rd13 hz3 T11 hZ2
      rw [show (runA (Wo.born rl) ([] : List Int)).length = 0 from rfl]
      go_wp2_with (at_builtin; refine wpList_append_eq rfl _ _ 23 rfl _ _ _ _ rfl rfl hr13 ?_)
      refine (sints_same (some ⟨Z1, 0, none⟩) p13 _ c13 (([] : List Int)) w13 RD.out.1 RD.out.2.1 RD.out.2.2).mono ?_
      rintro e w14 ⟨rfl, b14⟩
      have T14 : Hid (TW w4 w14 wb wa (Wo.born rl) (Wo.born rl) 0 0 [(Z1, .cells (ansA (([] : List Int)) (([] : List Int)).length) 3 (0, 0))]) := T13.out.below b14
      clear b14 T13 RD hr13
      go_wp2_with fail
      refine T14.out.symm.flying.mono ?_
      rintro e w15 ⟨⟨p15, c15, us, rfl, rt, rc5, hul, h5⟩, hfl, b15⟩
      have N15 : Hid (RdT w15 p15 (Wo.born rl).fl us ∧ RdC w15 (Wo.born rl).fl us ∧ us.length = (Wo.born rl).fl.length ∧ (∀ r ∈ nfR (Wo.born rl).fl us, Five r) ∧ (Wo.born rl).fl.length ≤ 200) := ⟨rt, rc5, hul, h5, hfl⟩
      have B15 : Hid (Below w14.heap.size w14 w15) := b15
      clear rt rc5 hul h5 hfl b15
      go_wp2_with fail
      refine (bnotes_any p15 c15 (Wo.born rl).fl us w15 N15.out.1 N15.out.2.2.1 N15.out.2.2.2.1 N15.out.2.2.2.2).mono ?_
      rintro e w16 ⟨⟨p16, c16, rfl, rt16⟩, b16⟩
      have N16 : Hid (RdT w16 p16 (Wo.born rl).fl us ∧ RdC w16 (Wo.born rl).fl us) := ⟨rt16, N15.out.2.1.below b16⟩
      have B16 : Hid (Below w14.heap.size w14 w16) := t2 B15.out b16
      clear rt16 b16 N15 B15
      go_wp2_with fail
      refine (T14.out.below B16.out).flying.mono ?_
      rintro e w17 ⟨⟨p17, c17, vs, rfl, rt, rc5, hul, h5⟩, hfl, b17⟩
      have N17 : Hid (RdT w17 p17 (Wo.born rl).fl vs ∧ RdC w17 (Wo.born rl).fl vs ∧ vs.length = (Wo.born rl).fl.length ∧ (∀ r ∈ nfR (Wo.born rl).fl vs, Five r) ∧ (Wo.born rl).fl.length ≤ 200) := ⟨rt, rc5, hul, h5, hfl⟩
      have M17 : Hid (RdT w17 p16 (Wo.born rl).fl us ∧ RdC w17 (Wo.born rl).fl us) := ⟨N16.out.1.below b17, N16.out.2.below b17⟩
      have B17 : Hid (Below w14.heap.size w14 w17) := t2 B16.out b17
      clear rt rc5 hul h5 hfl b17 N16 B16
      go_wp2_with fail
      refine (bnotes_any p17 c17 (Wo.born rl).fl vs w17 N17.out.1 N17.out.2.2.1 N17.out.2.2.2.1 N17.out.2.2.2.2).mono ?_
      rintro e w18 ⟨⟨p18, c18, rfl, rt18⟩, b18⟩
      have N18 : Hid (RdT w18 p18 (Wo.born rl).fl vs ∧ RdC w18 (Wo.born rl).fl vs ∧ (Wo.born rl).fl.length ≤ 200) := ⟨rt18, N17.out.2.1.below b18, N17.out.2.2.2.2⟩
      have M18 : Hid (RdT w18 p16 (Wo.born rl).fl us ∧ RdC w18 (Wo.born rl).fl us) := ⟨M17.out.1.below b18, M17.out.2.below b18⟩
      have B18 : Hid (Below w14.heap.size w14 w18) := t2 B17.out b18
      clear rt18 b18 N17 M17 B17
      go_wp2_with fail
      refine (snotes_same p16 p18 c16 c18 (Wo.born rl).fl us vs w18 M18.out.1 N18.out.1 M18.out.2 N18.out.2.1 N18.out.2.2).mono ?_
      rintro e w19 ⟨rfl, b19⟩
      have T19 : Hid (TW w4 w19 wb wa (Wo.born rl) (Wo.born rl) 0 0 [(Z1, .cells (ansA (([] : List Int)) (([] : List Int)).length) 3 (0, 0))]) := T14.out.below (t2 B18.out b19)
      clear b19 N18 M18 B18 T14
      go_wp2_with fail
      refine T19.out.symm.events.mono ?_
      rintro e w20 ⟨⟨p20, c20, rfl, re⟩, hev, b20⟩
      have E20 : Hid (RdE w20 p20 (Wo.born rl).ev ∧ (Wo.born rl).ev.length ≤ 1000) := ⟨re, hev⟩
      have B20 : Hid (Below w19.heap.size w19 w20) := b20
      clear re hev b20
      go_wp2_with fail
      refine (bevs_any p20 c20 (Wo.born rl).ev w20 E20.out.1 E20.out.2).mono ?_
      rintro e w21 ⟨⟨v21, rfl, ow⟩, b21⟩
      obtain ⟨p21, c21, rfl, rr⟩ := own_evs2 ow
      have E21 : Hid (RdE w21 p21 (Wo.born rl).ev ∧ (Wo.born rl).ev.length ≤ 1000) := ⟨fun j x hx => by obtain ⟨g, e, _, c0, c1⟩ := rr j x hx; exact ⟨g, e, c0, c1⟩, E20.out.2⟩
      have B21 : Hid (Below w19.heap.size w19 w21) := t2 B20.out b21
      clear ow rr b21 E20 B20
      go_wp2_with fail
      refine (T19.out.below B21.out).events.mono ?_
      rintro e w22 ⟨⟨p22, c22, rfl, re⟩, hev, b22⟩
      have E22 : Hid (RdE w22 p22 (Wo.born rl).ev ∧ RdE w22 p21 (Wo.born rl).ev ∧ (Wo.born rl).ev.length ≤ 1000) := ⟨re, E21.out.1.below b22, hev⟩
      have B22 : Hid (Below w19.heap.size w19 w22) := t2 B21.out b22
      clear re hev b22 E21 B21
      go_wp2_with fail
      refine (bevs_any p22 c22 (Wo.born rl).ev w22 E22.out.1 E22.out.2.2).mono ?_
      rintro e w23 ⟨⟨v23, rfl, ow⟩, b23⟩
      obtain ⟨p23, c23, rfl, rr⟩ := own_evs2 ow
      have E23 : Hid (RdE w23 p23 (Wo.born rl).ev ∧ RdE w23 p21 (Wo.born rl).ev ∧ (Wo.born rl).ev.length ≤ 1000) := ⟨fun j x hx => by obtain ⟨g, e, _, c0, c1⟩ := rr j x hx; exact ⟨g, e, c0, c1⟩, E22.out.2.1.below b23, E22.out.2.2⟩
      have B23 : Hid (Below w19.heap.size w19 w23) := t2 B22.out b23
      clear ow rr b23 E22 B22
      go_wp2_with fail
      refine (sevs_same p21 p23 c21 c23 (Wo.born rl).ev w23 E23.out.2.1 E23.out.1 E23.out.2.2).mono ?_
      rintro e w24 ⟨rfl, b24⟩
      have B24 : Hid (Below w.heap.size w w24) := t2 (t2 B4.out (T19.out.bl)) (t2 B23.out b24)
      clear b24 E23 B23 T19
      go_wp2_with fail
      go_ret
      exact ⟨rfl, B24.out⟩
    | some a =>
      obtain ⟨p10, c10, w10, Z10, hr10, hc10, t10, r10, m10, hs10⟩ := T9.out.script 23 (some a) cap (xs.take c) (fun j x hx => by
        rw [List.getElem?_take] at hx
        split at hx
        · exact hrd.out w9 T9.out.bl j x hx
        · cases hx) (fun e => by cases e) (fun x hx => hm.out x (List.mem_of_mem_take hx)) (by have := HN.out; rw [List.length_take]; omega)
      have hlt : (xs.take c).length = c := by have := HN.out; rw [List.length_take]; omega
      have HLT : Hid ((xs.take c).length = c) := hlt
      rw [hlt] at hr10 hc10
      have T10 : Hid (TW w4 w10 wa wb (runW (Wo.born rl) xs) (Wo.born rl) (0 + 10 * xs.length) 0 Z10 ∧ RdO w4 w10 Z10 p10 (xs.take c) ∧ (Z1, .cells (ansA (runA (Wo.born rl) xs) (runA (Wo.born rl) xs).length) 3 (0, 0)) ∈ Z10 ∧ Z1 < w10.heap.size) := ⟨t10, r10, m10 _ (List.mem_cons_self ..), heap_lt (t10.at' (m10 _ (List.mem_cons_self ..)))⟩
      clear t10 r10 m10 hs10 hlt
      have g1 : (c : Int) ≤ (cap : Int) := by have := HN.out; have := HL.out.1; omega
      have g2 : (0 : Int) ≤ (c : Int) := by omega
      have g3 : (c : Int) ≤ (xs.length : Int) := by have := HN.out; omega
      go_wp2_with (at_builtin; refine wpList_append_eq rfl _ _ 23 rfl _ _ _ _ rfl rfl hr10 ?_)
      refine (T10.out.1.symm.run2 S4.out F4.out (In.born HOK.out) (xs.take c) (by have := HN.out; have := HLT.out; omega) (by have := HN.out; have := HLT.out; omega) (by have := HN.out; have := HLT.out; omega) p10 _ c10 HLT.out.symm (by rw [HLT.out]; exact hc10) T10.out.2.1).mono ?_
      rintro e w11 ⟨Z2, rfl, hz2, hI11, t11⟩
      have T11 : Hid (TW w4 w11 wb wa (runW (Wo.born rl) (xs.take c)) (runW (Wo.born rl) xs) (0 + 10 * (xs.take c).length) (0 + 10 * xs.length) ((Z2, .cells (ansA (runA (Wo.born rl) (xs.take c)) (runA (Wo.born rl) (xs.take c)).length) 3 (0, 0)) :: Z10)) := t11
      have I11 : Hid (In (1 + 10 * (xs.take c).length) (runW (Wo.born rl) (xs.take c))) := hI11
      have hZ2 : Hid (w10.heap.size ≤ Z2) := hz2
      clear hz2 hI11 t11 hr10 hc10
      have RA : Hid (RdO w4 w11 ((Z2, .cells (ansA (runA (Wo.born rl) (xs.take c)) (runA (Wo.born rl) (xs.take c)).length) 3 (0, 0)) :: Z10) (some (a.add c)) (xs.drop c)) := fun j x hx => by
        rw [List.getElem?_drop] at hx
        obtain ⟨b, o, e, h, _, h'⟩ := HL.out.2.2 _ x hx
        cases e
        refine ⟨b, o + c, by rw [addr_addI], by rw [Nat.add_assoc]; exact tk (t2 B4.out T11.out.bl) h, h', .inl (Nat.lt_of_lt_of_le (tlt h) B4.out.size)⟩
      have RZ : Hid (cap = c → RdO w4 w11 ((Z2, .cells (ansA (runA (Wo.born rl) (xs.take c)) (runA (Wo.born rl) (xs.take c)).length) 3 (0, 0)) :: Z10) (some a) (xs.drop c)) := fun e j x hx => by
        rw [List.getElem?_drop, List.getElem?_eq_none (by have := HL.out.1; omega)] at hx
        cases hx
      have HLD : Hid ((xs.drop c).length = xs.length - c) := List.length_drop
      have HCC : Hid (xs.length ≤ cap ∧ c ≤ xs.length ∧ xs.length ≤ 200) := ⟨HL.out.1, HN.out.2.2, HN.out.2.1⟩
      have HA2 : Hid (runA (Wo.born rl) xs = runA (Wo.born rl) (xs.take c) ++ runA (runW (Wo.born rl) (xs.take c)) (xs.drop c)) := by
        show _ = _
        rw [← runA_app, List.take_append_drop]
      have HW2 : Hid (runW (runW (Wo.born rl) (xs.take c)) (xs.drop c) = runW (Wo.born rl) xs) := by
        show _ = _
        rw [← runW_app, List.take_append_drop]
      clear HL hrd hm T9
      by_cases hcc : c = cap
      · have RB : Hid (RdO w4 w11 ((Z2, .cells (ansA (runA (Wo.born rl) (xs.take c)) (runA (Wo.born rl) (xs.take c)).length) 3 (0, 0)) :: Z10) (some a) (xs.drop c)) := RZ.out hcc.symm
        clear RA RZ
        subst hcc
        go_wp2_with fail
        refine (T11.out.run2 S4.out F4.out I11.out (xs.drop c) (by have := HLD.out; have := HCC.out; omega) (by have := HLD.out; have := HLT.out; have := HCC.out; omega) (by have := HLD.out; have := HLT.out; have := HCC.out; omega) (some a) _ 0 HLD.out.symm (by have := HLD.out; have := HCC.out; omega) RB.out).mono ?_
        rintro e w12 ⟨Z3, rfl, hz3, -, t12⟩
        rw [HW2.out] at t12
        obtain ⟨p13, c13, w13, hr13, rd13, t13⟩ := t12.join 23 (List.mem_cons_of_mem _ (List.mem_cons_of_mem _ T10.out.2.2.1)) (List.mem_cons_of_mem _ (List.mem_cons_self ..)) (List.mem_cons_self ..) (by have := T10.out.2.2.2; have := hZ2.out; omega) (by have := T10.out.1.bl.size; have := hZ2.out; omega) (by rw [runA_len, runA_len]; have := HLD.out; have := HLT.out; have := HCC.out; omega)
        rw [← HA2.out] at hr13 rd13
        have hla : (runA (Wo.born rl) xs).length ≤ 3000 := by rw [runA_len]; have := HCC.out; omega
        have T13 : Hid (TW w4 w13 wb wa (runW (Wo.born rl) xs) (runW (Wo.born rl) xs) (0 + 10 * (List.take c xs).length + 10 * (List.drop c xs).length) (0 + 10 * xs.length) [(Z1, .cells (ansA (runA (Wo.born rl) xs) (runA (Wo.born rl) xs).length) 3 (0, 0))]) := t13
        have RD : Hid (RdN w13 (some ⟨Z1, 0, none⟩) (runA (Wo.born rl) xs) ∧ RdN w13 p13 (runA (Wo.born rl) xs) ∧ (runA (Wo.born rl) xs).length ≤ 3000) := ⟨ans_rd (t13.at' (List.mem_cons_self ..)), rd13, hla⟩
        clear t12 t13 rd13 hla hz3 T11 T10 I11 RB HW2 hZ1 hZ2
        go_wp2_with (at_builtin; refine wpList_append_eq rfl _ _ 23 rfl _ _ _ _ rfl rfl hr13 ?_)
        refine (sints_same (some ⟨Z1, 0, none⟩) p13 _ c13 (runA (Wo.born rl) xs) w13 RD.out.1 RD.out.2.1 RD.out.2.2).mono ?_
        rintro e w14 ⟨rfl, b14⟩
        have T14 : Hid (TW w4 w14 wb wa (runW (Wo.born rl) xs) (runW (Wo.born rl) xs) (0 + 10 * (List.take c xs).length + 10 * (List.drop c xs).length) (0 + 10 * xs.length) [(Z1, .cells (ansA (runA (Wo.born rl) xs) (runA (Wo.born rl) xs).length) 3 (0, 0))]) := T13.out.below b14
        clear b14 T13 RD hr13
        go_wp2_with fail
        refine T14.out.symm.flying.mono ?_
        rintro e w15 ⟨⟨p15, c15, us, rfl, rt, rc5, hul, h5⟩, hfl, b15⟩
        have N15 : Hid (RdT w15 p15 (runW (Wo.born rl) xs).fl us ∧ RdC w15 (runW (Wo.born rl) xs).fl us ∧ us.length = (runW (Wo.born rl) xs).fl.length ∧ (∀ r ∈ nfR (runW (Wo.born rl) xs).fl us, Five r) ∧ (runW (Wo.born rl) xs).fl.length ≤ 200) := ⟨rt, rc5, hul, h5, hfl⟩
        have B15 : Hid (Below w14.heap.size w14 w15) := b15
        clear rt rc5 hul h5 hfl b15
        go_wp2_with fail
        refine (bnotes_any p15 c15 (runW (Wo.born rl) xs).fl us w15 N15.out.1 N15.out.2.2.1 N15.out.2.2.2.1 N15.out.2.2.2.2).mono ?_
        rintro e w16 ⟨⟨p16, c16, rfl, rt16⟩, b16⟩
        have N16 : Hid (RdT w16 p16 (runW (Wo.born rl) xs).fl us ∧ RdC w16 (runW (Wo.born rl) xs).fl us) := ⟨rt16, N15.out.2.1.below b16⟩
        have B16 : Hid (Below w14.heap.size w14 w16) := t2 B15.out b16
        clear rt16 b16 N15 B15
        go_wp2_with fail
        refine (T14.out.below B16.out).flying.mono ?_
        rintro e w17 ⟨⟨p17, c17, vs, rfl, rt, rc5, hul, h5⟩, hfl, b17⟩
        have N17 : Hid (RdT w17 p17 (runW (Wo.born rl) xs).fl vs ∧ RdC w17 (runW (Wo.born rl) xs).fl vs ∧ vs.length = (runW (Wo.born rl) xs).fl.length ∧ (∀ r ∈ nfR (runW (Wo.born rl) xs).fl vs, Five r) ∧ (runW (Wo.born rl) xs).fl.length ≤ 200) := ⟨rt, rc5, hul, h5, hfl⟩
        have M17 : Hid (RdT w17 p16 (runW (Wo.born rl) xs).fl us ∧ RdC w17 (runW (Wo.born rl) xs).fl us) := ⟨N16.out.1.below b17, N16.out.2.below b17⟩
        have B17 : Hid (Below w14.heap.size w14 w17) := t2 B16.out b17
        clear rt rc5 hul h5 hfl b17 N16 B16
        go_wp2_with fail
        refine (bnotes_any p17 c17 (runW (Wo.born rl) xs).fl vs w17 N17.out.1 N17.out.2.2.1 N17.out.2.2.2.1 N17.out.2.2.2.2).mono ?_
        rintro e w18 ⟨⟨p18, c18, rfl, rt18⟩, b18⟩
        have N18 : Hid (RdT w18 p18 (runW (Wo.born rl) xs).fl vs ∧ RdC w18 (runW (Wo.born rl) xs).fl vs ∧ (runW (Wo.born rl) xs).fl.length ≤ 200) := ⟨rt18, N17.out.2.1.below b18, N17.out.2.2.2.2⟩
        have M18 : Hid (RdT w18 p16 (runW (Wo.born rl) xs).fl us ∧ RdC w18 (runW (Wo.born rl) xs).fl us) := ⟨M17.out.1.below b18, M17.out.2.below b18⟩
        have B18 : Hid (Below w14.heap.size w14 w18) := t2 B17.out b18
        clear rt18 b18 N17 M17 B17
        go_wp2_with fail
        refine (snotes_same p16 p18 c16 c18 (runW (Wo.born rl) xs).fl us vs w18 M18.out.1 N18.out.1 M18.out.2 N18.out.2.1 N18.out.2.2).mono ?_
        rintro e w19 ⟨rfl, b19⟩
        have T19 : Hid (TW w4 w19 wb wa (runW (Wo.born rl) xs) (runW (Wo.born rl) xs) (0 + 10 * (List.take c xs).length + 10 * (List.drop c xs).length) (0 + 10 * xs.length) [(Z1, .cells (ansA (runA (Wo.born rl) xs) (runA (Wo.born rl) xs).length) 3 (0, 0))]) := T14.out.below (t2 B18.out b19)
        clear b19 N18 M18 B18 T14
        go_wp2_with fail
        refine T19.out.symm.events.mono ?_
        rintro e w20 ⟨⟨p20, c20, rfl, re⟩, hev, b20⟩
        have E20 : Hid (RdE w20 p20 (runW (Wo.born rl) xs).ev ∧ (runW (Wo.born rl) xs).ev.length ≤ 1000) := ⟨re, hev⟩
        have B20 : Hid (Below w19.heap.size w19 w20) := b20
        clear re hev b20
        go_wp2_with fail
        refine (bevs_any p20 c20 (runW (Wo.born rl) xs).ev w20 E20.out.1 E20.out.2).mono ?_
        rintro e w21 ⟨⟨v21, rfl, ow⟩, b21⟩
        obtain ⟨p21, c21, rfl, rr⟩ := own_evs2 ow
        have E21 : Hid (RdE w21 p21 (runW (Wo.born rl) xs).ev ∧ (runW (Wo.born rl) xs).ev.length ≤ 1000) := ⟨fun j x hx => by obtain ⟨g, e, _, c0, c1⟩ := rr j x hx; exact ⟨g, e, c0, c1⟩, E20.out.2⟩
        have B21 : Hid (Below w19.heap.size w19 w21) := t2 B20.out b21
        clear ow rr b21 E20 B20
        go_wp2_with fail
        refine (T19.out.below B21.out).events.mono ?_
        rintro e w22 ⟨⟨p22, c22, rfl, re⟩, hev, b22⟩
        have E22 : Hid (RdE w22 p22 (runW (Wo.born rl) xs).ev ∧ RdE w22 p21 (runW (Wo.born rl) xs).ev ∧ (runW (Wo.born rl) xs).ev.length ≤ 1000) := ⟨re, E21.out.1.below b22, hev⟩
        have B22 : Hid (Below w19.heap.size w19 w22) := t2 B21.out b22
        clear re hev b22 E21 B21
        go_wp2_with fail
        refine (bevs_any p22 c22 (runW (Wo.born rl) xs).ev w22 E22.out.1 E22.out.2.2).mono ?_
        rintro e w23 ⟨⟨v23, rfl, ow⟩, b23⟩
        obtain ⟨p23, c23, rfl, rr⟩ := own_evs2 ow
        have E23 : Hid (RdE w23 p23 (runW (Wo.born rl) xs).ev ∧ RdE w23 p21 (runW (Wo.born rl) xs).ev ∧ (runW (Wo.born rl) xs).ev.length ≤ 1000) := ⟨fun j x hx => by obtain ⟨g, e, _, c0, c1⟩ := rr j x hx; exact ⟨g, e, c0, c1⟩, E22.out.2.1.below b23, E22.out.2.2⟩
        have B23 : Hid (Below w19.heap.size w19 w23) := t2 B22.out b23
        clear ow rr b23 E22 B22
        go_wp2_with fail
        refine (sevs_same p21 p23 c21 c23 (runW (Wo.born rl) xs).ev w23 E23.out.2.1 E23.out.1 E23.out.2.2).mono ?_
        rintro e w24 ⟨rfl, b24⟩
        have B24 : Hid (Below w.heap.size w w24) := t2 (t2 B4.out (T19.out.bl)) (t2 B23.out b24)
        clear b24 E23 B23 T19
        go_wp2_with fail
        go_ret
        exact ⟨rfl, B24.out⟩
      · clear RZ
        have RB := RA
        clear RA
        have hcc' : ¬ (cap : Int) = (c : Int) := by omega
        go_wp2_with fail
        refine (T11.out.run2 S4.out F4.out I11.out (xs.drop c) (by have := HLD.out; have := HCC.out; omega) (by have := HLD.out; have := HLT.out; have := HCC.out; omega) (by have := HLD.out; have := HLT.out; have := HCC.out; omega) (some (a.add c)) _ (cap - c) HLD.out.symm (by have := HLD.out; have := HCC.out; omega) RB.out).mono ?_
        rintro e w12 ⟨Z3, rfl, hz3, -, t12⟩
        rw [HW2.out] at t12
        obtain ⟨p13, c13, w13, hr13, rd13, t13⟩ := t12.join 23 (List.mem_cons_of_mem _ (List.mem_cons_of_mem _ T10.out.2.2.1)) (List.mem_cons_of_mem _ (List.mem_cons_self ..)) (List.mem_cons_self ..) (by have := T10.out.2.2.2; have := hZ2.out; omega) (by have := T10.out.1.bl.size; have := hZ2.out; omega) (by rw [runA_len, runA_len]; have := HLD.out; have := HLT.out; have := HCC.out; omega)
        rw [← HA2.out] at hr13 rd13
        have hla : (runA (Wo.born rl) xs).length ≤ 3000 := by rw [runA_len]; have := HCC.out; omega
        have T13 : Hid (TW w4 w13 wb wa (runW (Wo.born rl) xs) (runW (Wo.born rl) xs) (0 + 10 * (List.take c xs).length + 10 * (List.drop c xs).length) (0 + 10 * xs.length) [(Z1, .cells (ansA (runA (Wo.born rl) xs) (runA (Wo.born rl) xs).length) 3 (0, 0))]) := t13
        have RD : Hid (RdN w13 (some ⟨Z1, 0, none⟩) (runA (Wo.born rl) xs) ∧ RdN w13 p13 (runA (Wo.born rl) xs) ∧ (runA (Wo.born rl) xs).length ≤ 3000) := ⟨ans_rd (t13.at' (List.mem_cons_self ..)), rd13, hla⟩
        clear t12 t13 rd13 hla hz3 T11 T10 I11 RB HW2 hZ1 hZ2
        go_wp2_with (at_builtin; refine wpList_append_eq rfl _ _ 23 rfl _ _ _ _ rfl rfl hr13 ?_)
        refine (sints_same (some ⟨Z1, 0, none⟩) p13 _ c13 (runA (Wo.born rl) xs) w13 RD.out.1 RD.out.2.1 RD.out.2.2).mono ?_
        rintro e w14 ⟨rfl, b14⟩
        have T14 : Hid (TW w4 w14 wb wa (runW (Wo.born rl) xs) (runW (Wo.born rl) xs) (0 + 10 * (List.take c xs).length + 10 * (List.drop c xs).length) (0 + 10 * xs.length) [(Z1, .cells (ansA (runA (Wo.born rl) xs) (runA (Wo.born rl) xs).length) 3 (0, 0))]) := T13.out.below b14
        clear b14 T13 RD hr13
        go_wp2_with fail
        refine T14.out.symm.flying.mono ?_
        rintro e w15 ⟨⟨p15, c15, us, rfl, rt, rc5, hul, h5⟩, hfl, b15⟩
        have N15 : Hid (RdT w15 p15 (runW (Wo.born rl) xs).fl us ∧ RdC w15 (runW (Wo.born rl) xs).fl us ∧ us.length = (runW (Wo.born rl) xs).fl.length ∧ (∀ r ∈ nfR (runW (Wo.born rl) xs).fl us, Five r) ∧ (runW (Wo.born rl) xs).fl.length ≤ 200) := ⟨rt, rc5, hul, h5, hfl⟩
        have B15 : Hid (Below w14.heap.size w14 w15) := b15
        clear rt rc5 hul h5 hfl b15
        go_wp2_with fail
        refine (bnotes_any p15 c15 (runW (Wo.born rl) xs).fl us w15 N15.out.1 N15.out.2.2.1 N15.out.2.2.2.1 N15.out.2.2.2.2).mono ?_
        rintro e w16 ⟨⟨p16, c16, rfl, rt16⟩, b16⟩
        have N16 : Hid (RdT w16 p16 (runW (Wo.born rl) xs).fl us ∧ RdC w16 (runW (Wo.born rl) xs).fl us) := ⟨rt16, N15.out.2.1.below b16⟩
        have B16 : Hid (Below w14.heap.size w14 w16) := t2 B15.out b16
        clear rt16 b16 N15 B15
        go_wp2_with fail
        refine (T14.out.below B16.out).flying.mono ?_
        rintro e w17 ⟨⟨p17, c17, vs, rfl, rt, rc5, hul, h5⟩, hfl, b17⟩
        have N17 : Hid (RdT w17 p17 (runW (Wo.born rl) xs).fl vs ∧ RdC w17 (runW (Wo.born rl) xs).fl vs ∧ vs.length = (runW (Wo.born rl) xs).fl.length ∧ (∀ r ∈ nfR (runW (Wo.born rl) xs).fl vs, Five r) ∧ (runW (Wo.born rl) xs).fl.length ≤ 200) := ⟨rt, rc5, hul, h5, hfl⟩
        have M17 : Hid (RdT w17 p16 (runW (Wo.born rl) xs).fl us ∧ RdC w17 (runW (Wo.born rl) xs).fl us) := ⟨N16.out.1.below b17, N16.out.2.below b17⟩
        have B17 : Hid (Below w14.heap.size w14 w17) := t2 B16.out b17
        clear rt rc5 hul h5 hfl b17 N16 B16
        go_wp2_with fail
        refine (bnotes_any p17 c17 (runW (Wo.born rl) xs).fl vs w17 N17.out.1 N17.out.2.2.1 N17.out.2.2.2.1 N17.out.2.2.2.2).mono ?_
        rintro e w18 ⟨⟨p18, c18, rfl, rt18⟩, b18⟩
        have N18 : Hid (RdT w18 p18 (runW (Wo.born rl) xs).fl vs ∧ RdC w18 (runW (Wo.born rl) xs).fl vs ∧ (runW (Wo.born rl) xs).fl.length ≤ 200) := ⟨rt18, N17.out.2.1.below b18, N17.out.2.2.2.2⟩
        have M18 : Hid (RdT w18 p16 (runW (Wo.born rl) xs).fl us ∧ RdC w18 (runW (Wo.born rl) xs).fl us) := ⟨M17.out.1.below b18, M17.out.2.below b18⟩
        have B18 : Hid (Below w14.heap.size w14 w18) := t2 B17.out b18
        clear rt18 b18 N17 M17 B17
        go_wp2_with fail
        refine (snotes_same p16 p18 c16 c18 (runW (Wo.born rl) xs).fl us vs w18 M18.out.1 N18.out.1 M18.out.2 N18.out.2.1 N18.out.2.2).mono ?_
        rintro e w19 ⟨rfl, b19⟩
        have T19 : Hid (TW w4 w19 wb wa (runW (Wo.born rl) xs) (runW (Wo.born rl) xs) (0 + 10 * (List.take c xs).length + 10 * (List.drop c xs).length) (0 + 10 * xs.length) [(Z1, .cells (ansA (runA (Wo.born rl) xs) (runA (Wo.born rl) xs).length) 3 (0, 0))]) := T14.out.below (t2 B18.out b19)
        clear b19 N18 M18 B18 T14
        go_wp2_with fail
        refine T19.out.symm.events.mono ?_
        rintro e w20 ⟨⟨p20, c20, rfl, re⟩, hev, b20⟩
        have E20 : Hid (RdE w20 p20 (runW (Wo.born rl) xs).ev ∧ (runW (Wo.born rl) xs).ev.length ≤ 1000) := ⟨re, hev⟩
        have B20 : Hid (Below w19.heap.size w19 w20) := b20
        clear re hev b20
        go_wp2_with fail
        refine (bevs_any p20 c20 (runW (Wo.born rl) xs).ev w20 E20.out.1 E20.out.2).mono ?_
        rintro e w21 ⟨⟨v21, rfl, ow⟩, b21⟩
        obtain ⟨p21, c21, rfl, rr⟩ := own_evs2 ow
        have E21 : Hid (RdE w21 p21 (runW (Wo.born rl) xs).ev ∧ (runW (Wo.born rl) xs).ev.length ≤ 1000) := ⟨fun j x hx => by obtain ⟨g, e, _, c0, c1⟩ := rr j x hx; exact ⟨g, e, c0, c1⟩, E20.out.2⟩
        have B21 : Hid (Below w19.heap.size w19 w21) := t2 B20.out b21
        clear ow rr b21 E20 B20
        go_wp2_with fail
        refine (T19.out.below B21.out).events.mono ?_
        rintro e w22 ⟨⟨p22, c22, rfl, re⟩, hev, b22⟩
        have E22 : Hid (RdE w22 p22 (runW (Wo.born rl) xs).ev ∧ RdE w22 p21 (runW (Wo.born rl) xs).ev ∧ (runW (Wo.born rl) xs).ev.length ≤ 1000) := ⟨re, E21.out.1.below b22, hev⟩
        have B22 : Hid (Below w19.heap.size w19 w22) := t2 B21.out b22
        clear re hev b22 E21 B21
        go_wp2_with fail
        refine (bevs_any p22 c22 (runW (Wo.born rl) xs).ev w22 E22.out.1 E22.out.2.2).mono ?_
        rintro e w23 ⟨⟨v23, rfl, ow⟩, b23⟩
        obtain ⟨p23, c23, rfl, rr⟩ := own_evs2 ow
        have E23 : Hid (RdE w23 p23 (runW (Wo.born rl) xs).ev ∧ RdE w23 p21 (runW (Wo.born rl) xs).ev ∧ (runW (Wo.born rl) xs).ev.length ≤ 1000) := ⟨fun j x hx => by obtain ⟨g, e, _, c0, c1⟩ := rr j x hx; exact ⟨g, e, c0, c1⟩, E22.out.2.1.below b23, E22.out.2.2⟩
        have B23 : Hid (Below w19.heap.size w19 w23) := t2 B22.out b23
        clear ow rr b23 E22 B22
        go_wp2_with fail
        refine (sevs_same p21 p23 c21 c23 (runW (Wo.born rl) xs).ev w23 E23.out.2.1 E23.out.1 E23.out.2.2).mono ?_
        rintro e w24 ⟨rfl, b24⟩
        have B24 : Hid (Below w.heap.size w w24) := t2 (t2 B4.out (T19.out.bl)) (t2 B23.out b24)
        clear b24 E23 B23 T19
        go_wp2_with fail
        go_ret
        exact ⟨rfl, B24.out⟩
end Go.Proofs.YtdghkkpncgljoaaGreatDoor
