/-
  The law TableFills, walked: the way on which a table is filled.
-/
import Derived.Test.YteiaamboijimnaaDoorTfA
namespace Go.Proofs.YteiaamboijimnaaDoor
open Go.RowKit

set_option maxRecDepth 100000 in
set_option maxHeartbeats 4000000 in
theorem fills_ok (node : Nat) (pr fa fp : Int) (d : Nat) (s : Nat → Addr) (w : World) (S : Sents w s) (hn : node < 2) (hp : pr ≠ 0) (hd : d < 24) :
    Calls Tryd.prog 10 #[.int .i64 node, .int .i64 pr, .agg #[.int .i64 fa, .int .i64 fp], .int .i64 d] w fun e w' => e = .returned (.bool true) ∧ Below w.heap.size w w' := by
  have HS : Hid (Sents w s) := S
  have HP : Hid (pr ≠ 0) := hp
  have h1 : ¬ (node : Int) < 0 := by omega
  have h2 : ¬ (1 : Int) < (node : Int) := by omega
  have h3 : (pr == 0) = false := beq_eq_false_iff_ne.2 hp
  have h4 : ¬ (d : Int) < 0 := by omega
  have h5 : ¬ (24 : Int) ≤ (d : Int) := by omega
  have hl : Hid (2000 + (node : Int) * 24 ≤ 100000) := by show _ ≤ _; omega
  have hl0 : Hid (0 ≤ 2000 + (node : Int) * 24) := by show _ ≤ _; omega
  have hw1 : IntKind.i64.wrap ((node : Int) * 24) = (node : Int) * 24 := by rw [IntKind.wrap_i64]; omega
  have hw2 : IntKind.i64.wrap (2000 + (node : Int) * 24) = 2000 + (node : Int) * 24 := by rw [IntKind.wrap_i64]; omega
  have hw3 : IntKind.i64.wrap (2000 + (node : Int) * 24 + (d : Int)) = 2000 + (node : Int) * 24 + (d : Int) := by rw [IntKind.wrap_i64]; omega
  clear S hp
  go_enter Tryd.func10, Tryd.ntmps10
  go_wp2_with fail
  have B0 : Hid (Below w.heap.size w (w.alloc (.cells #[.int .i64 fa, .int .i64 fp] 37))) := aB _ _
  have E0 : Hid (FarB (w.alloc (.cells #[.int .i64 fa, .int .i64 fp] 37)) w.heap.size fa fp) := ⟨(nw _ _ _ _).trans rfl, (nw _ _ _ _).trans rfl⟩
  generalize w.alloc (.cells #[.int .i64 fa, .int .i64 fp] 37) = w0 at *
  obtain ⟨Z, hZ⟩ : ∃ Z, Z = w.heap.size := ⟨_, rfl⟩
  rw [← hZ] at E0 ⊢
  have HZ : Hid (Z = w.heap.size) := hZ
  have HL : Hid (Z < w0.heap.size) := tlt E0.out.c0
  clear hZ
  refine (listed_any s _ (HS.out.below B0.out)).mono ?_
  rintro e w1 ⟨rfl, hb1⟩
  have B1 : Hid (Below w.heap.size w w1) := t2 B0.out hb1
  have E1 : Hid (FarB w1 Z fa fp) := E0.out.below hb1
  have HL1 : Hid (Z < w1.heap.size) := tlt E1.out.c0
  clear hb1 B0 E0 HL
  go_wp2_with fail
  refine (new_ok node w1 hn).mono ?_
  rintro e w2 ⟨b, rfl, t2', hbb, hb2⟩
  have T2 : Hid (Tab w2 b (2000 + node * 24) newT) := t2'
  have HBB : Hid (w1.heap.size ≤ b) := hbb
  have B2 : Hid (Below w.heap.size w w2) := t2 B1.out hb2
  have E2 : Hid (FarB w2 Z fa fp) := E1.out.below hb2
  have HW : Hid (w.heap.size ≤ b) := Nat.le_trans B1.out.size hbb
  have HN : Hid (Z ≠ b) := by show Z ≠ b; have := HL1.out; omega
  clear t2' hbb hb2 B1 E1 HL1
  generalize hlow : 2000 + (node : Int) * 24 = low at *
  go_wp2_with fail
  go_loopw [12] (fun t wr => ∃ j : Nat, j ≤ 24 ∧ t = .int .i64 j ∧ Tab wr b low (fillT low pr fa fp j) ∧ FarB wr Z fa fp ∧ Below w.heap.size w wr) (fun t _ => 24 - (intOf t).toNat)
  case atStart => exact ⟨0, by omega, rfl, by rw [fill_zero]; exact T2.out, E2.out, B2.out⟩
  case round =>
    obtain ⟨j, hj, rfl, htb, hen, hbr⟩ := hrel
    have HT : Hid (Tab wr b low (fillT low pr fa fp j)) := htb
    have HE : Hid (FarB wr Z fa fp) := hen
    have HB : Hid (Below w.heap.size w wr) := hbr
    have e0 := hen.c0
    have e1 := hen.c1
    clear htb hen hbr T2 E2 B2
    by_cases hlt : j < 24
    · go_wp2_with fail
      clear e0 e1
      have hadd := add_any b low (fillT low pr fa fp j) pr j 1 fa fp 1 1 1 s wr (HS.out.below HB.out) HT.out hl0.out hl.out (fill_vers low pr fa fp j) (by omega)
      rw [fill_add hlt HP.out] at hadd
      refine hadd.mono ?_
      clear hadd
      rintro e w3 ⟨rfl, t3, c3⟩
      have T3 : Hid (Tab w3 b low (fillT low pr fa fp (j + 1))) := t3
      have B3 : Hid (Below w.heap.size w w3) := Chg.below HB.out c3 HW.out
      have E3 : Hid (FarB w3 Z fa fp) := HE.out.chg c3 HN.out
      clear t3 c3
      simp only [terr]
      go_wp2_with fail
      go_roundw
      case rel => exact ⟨j + 1, by omega, by go_num, T3.out, E3.out, B3.out⟩
      case measure => simp [intOf]; omega
    · obtain rfl : j = 24 := by omega
      go_wp2_with fail
      clear e0 e1
      have hadd := add_any b low (fillT low pr fa fp 24) pr 24 1 fa fp 1 1 1 s wr (HS.out.below HB.out) HT.out hl0.out hl.out (fill_vers low pr fa fp 24) (by omega)
      rw [fill_full HP.out] at hadd
      refine hadd.mono ?_
      clear hadd
      rintro e w3 ⟨rfl, t3, c3⟩
      have T3 : Hid (Tab w3 b low (fillT low pr fa fp 24)) := t3
      have B3 : Hid (Below w.heap.size w w3) := Chg.below HB.out c3 HW.out
      have E3 : Hid (FarB w3 Z fa fp) := HE.out.chg c3 HN.out
      clear t3 c3 HT HE HB
      obtain ⟨v6, h6⟩ : ∃ v, terr s 6 = v := ⟨_, rfl⟩
      have H6 : Hid (terr s 6 = v6) := h6
      simp only [h6]
      clear h6
      go_wp2_with fail
      have hcod := coded_terr 6 (by omega) s w3 (HS.out.below B3.out)
      rw [H6.out] at hcod
      refine hcod.mono ?_
      clear hcod
      rintro e w4 ⟨rfl, hb4⟩
      have T4 : Hid (Tab w4 b low (fillT low pr fa fp 24)) := T3.out.below hb4
      have B4 : Hid (Below w.heap.size w w4) := t2 B3.out hb4
      have E4 : Hid (FarB w4 Z fa fp) := E3.out.below hb4
      clear hb4 T3 B3 E3
      go_wp2_with fail
      have hdr := drop_any b low (fillT low pr fa fp 24) d 1 s w4 (HS.out.below B4.out) T4.out (fill_vers low pr fa fp 24) (by omega)
      rw [fill_slot hd HP.out, fill_drop hd HP.out] at hdr
      refine hdr.mono ?_
      clear hdr
      rintro e w5 ⟨rfl, t5, c5⟩
      have T5 : Hid (Tab w5 b low (holeT low pr fa fp d)) := t5
      have B5 : Hid (Below w.heap.size w w5) := Chg.below B4.out c5 HW.out
      have E5 : Hid (FarB w5 Z fa fp) := E4.out.chg c5 HN.out
      clear t5 c5 T4 B4 E4
      have e0 := E5.out.c0
      have e1 := E5.out.c1
      simp only [terr]
      go_wp2_with fail
      clear e0 e1
      have hadd := add_any b low (holeT low pr fa fp d) pr 24 1 fa fp 1 1 2 s w5 (HS.out.below B5.out) T5.out hl0.out hl.out (hole_vers low pr fa fp d) (by omega)
      rw [hole_add hd HP.out] at hadd
      refine hadd.mono ?_
      clear hadd
      rintro e w6 ⟨rfl, t6, c6⟩
      have T6 : Hid (Tab w6 b low (layT (holeT low pr fa fp d) d pr 24 1 fa fp (low + d) 1 1)) := t6
      have B6 : Hid (Below w.heap.size w w6) := Chg.below B5.out c6 HW.out
      clear t6 c6 T5 B5 E5
      simp only [terr]
      go_wp2_with fail
      have hget := get_ok b low _ d w6 T6.out (by omega)
      rw [hole_cell] at hget
      refine hget.mono ?_
      clear hget
      rintro e w7 ⟨rfl, hb7⟩
      have B7 : Hid (Below w.heap.size w w7) := t2 B6.out hb7
      clear hb7
      simp only [cellV]
      go_wp2_with fail
      go_ret
      exact ⟨rfl, B7.out.alloc B7.out.size _⟩
theorem fills_any (node pr fa fp d : Int) (s : Nat → Addr) (w : World) (S : Sents w s) :
    Calls Tryd.prog 10 #[.int .i64 node, .int .i64 pr, .agg #[.int .i64 fa, .int .i64 fp], .int .i64 d] w fun e w' => e = .returned (.bool true) ∧ Below w.heap.size w w' := by
  by_cases h : node < 0 ∨ 1 < node ∨ pr = 0 ∨ d < 0 ∨ 24 ≤ d
  · exact fills_none node pr fa fp d s w S h
  · obtain ⟨n, rfl⟩ : ∃ n : Nat, node = n := ⟨node.toNat, by omega⟩
    obtain ⟨k, rfl⟩ : ∃ n : Nat, d = n := ⟨d.toNat, by omega⟩
    exact fills_ok n pr fa fp k s w S (by omega) (fun e => h (by omega)) (by omega)
end Go.Proofs.YteiaamboijimnaaDoor
