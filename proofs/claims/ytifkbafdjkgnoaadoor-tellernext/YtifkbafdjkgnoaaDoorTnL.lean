/-
  The law TellerNext, walked.
-/
import Derived.Test.YtifkbafdjkgnoaaDoorTnD
import Derived.Test.YtifkbafdjkgnoaaDoorTbQ
namespace Go.Proofs.YtifkbafdjkgnoaaDoor
open Go.RowKit Go.Maps

set_option maxRecDepth 100000 in
set_option maxHeartbeats 4000000 in
theorem next_none (node : Int) (v : Value) (l : List Ac) (s : Nat → Addr) (w : World) (S : Se4 w s) (I : ActsIn w v l) (h : 100 < l.length ∨ node < 0 ∨ 1 < node) :
    Calls Tryd.prog 4 #[.int .i64 node, v] w fun e w' => e = .returned (.bool true) ∧ Below w.heap.size w w' := by
  have HS : Hid (Se4 w s) := S
  obtain ⟨p, cap, rfl, _⟩ := I
  clear S
  go_enter Tryd.func4, Tryd.ntmps4
  go_wp2_with fail
  refine (tells_any s _ HS.out).mono ?_
  rintro e w1 ⟨rfl, hb1⟩
  have B1 : Hid (Below w.heap.size w w1) := hb1
  clear hb1
  by_cases h1 : (100 : Int) < (l.length : Int)
  · clear h
    go_wp2_with fail
    all_goals go_ret
    all_goals exact ⟨rfl, B1.out⟩
  by_cases h2 : node < 0
  · clear h
    go_wp2_with fail
    all_goals go_ret
    all_goals exact ⟨rfl, B1.out⟩
  have h3 : 1 < node := by omega
  clear h
  go_wp2_with fail
  all_goals go_ret
  all_goals exact ⟨rfl, B1.out⟩
set_option maxRecDepth 100000 in
set_option maxHeartbeats 8000000 in
theorem next_ok (node : Nat) (v : Value) (l : List Ac) (s : Nat → Addr) (w : World) (S : Se4 w s) (I : ActsIn w v l) (hl : l.length ≤ 100) (hn : node < 2) :
    Calls Tryd.prog 4 #[.int .i64 node, v] w fun e w' => e = .returned (.bool true) ∧ Below w.heap.size w w' := by
  have HS : Hid (Se4 w s) := S
  obtain ⟨p, cp, rfl, I0⟩ := I
  have HI : Hid (∀ (i : Nat) a, l[i]? = some a → ∃ b o, p = some ⟨b, o, none⟩ ∧ AcAt w b (o + i * 10) a) := I0
  clear S I0
  have h1 : ¬ (100 : Int) < (l.length : Int) := by omega
  have h2 : ¬ (node : Int) < 0 := by omega
  have h3 : ¬ (1 : Int) < (node : Int) := by omega
  have hl1 : Hid (2000 + (node : Int) * 24 ≤ 100000) := by show _ ≤ _; omega
  have hl0 : Hid (0 ≤ 2000 + (node : Int) * 24) := by show _ ≤ _; omega
  go_enter Tryd.func4, Tryd.ntmps4
  go_wp2_with fail
  refine (tells_any s _ HS.out).mono ?_
  rintro e w1 ⟨rfl, hb1⟩
  have B1 : Hid (Below w.heap.size w w1) := hb1
  clear hb1
  go_wp2_with fail
  refine (new_ok node w1 hn).mono ?_
  rintro e w2 ⟨b, rfl, t2', hbb, hb2⟩
  have T2 : Hid (Tab w2 b (2000 + node * 24) newT) := t2'
  have B2 : Hid (Below w.heap.size w w2) := t2 B1.out hb2
  have HW : Hid (w.heap.size ≤ b) := Nat.le_trans B1.out.size hbb
  clear t2' hbb hb2 B1
  go_wp2_with fail
  refine (tnew_any b w2).mono ?_
  rintro e w3 ⟨⟨X, M, rfl, hx, hm, hh⟩, hb3⟩
  have L3 : Hid (Tl w w3 b X M (2000 + node * 24) newT (fun _ => 0) 0 0 0 ∧ b < X ∧ b < M) := ⟨tl_new T2.out B2.out HW.out hb3 hx hm hh, by have := T2.out.lt; omega, by have := T2.out.lt; omega⟩
  clear hx hm hh hb3 T2 B2 HW
  go_wp2_with fail
  refine (newR_any node w3 hn).mono ?_
  rintro e w4 ⟨⟨md, g, cap, rfl, hmd, hg, ht⟩, hb4⟩
  have T4 : Hid (Tl w w4 b X M (2000 + node * 24) newT (fun _ => 0) 0 0 0 ∧ RTab w4 md g cap (2000 + node * 24) newT ∧ b < X ∧ b < M ∧ X < md ∧ X < g ∧ M < md ∧ M < g) := by
    have e1 := tlt L3.out.1.h.c0
    have e2 := L3.out.1.h.m.lt
    simp only at e1
    exact ⟨L3.out.1.below hb4, ht, L3.out.2.1, L3.out.2.2, by omega, by omega, by omega, by omega⟩
  clear hmd hg ht hb4 L3
  go_wp2_with fail
  refine (rnew_any md w4).mono ?_
  rintro e w5 ⟨⟨y, h, rfl, hy, hh, hr⟩, hb5⟩
  have H0 : Hid (Tn w w5 b X M md g cap y h (2000 + node * 24) newT (fun _ => 0) 0 0 0) := by
    obtain ⟨q1, q2, q3, q4, q5, q6, q7, q8⟩ := T4.out
    have e1 := tlt q2.c0
    have e2 := q2.sl.lt
    simp only at e1
    exact ⟨q1.below hb5, q2.below hb5, hr, q3, q4, q5, q6, q7, q8, by omega, by omega, by omega, by omega⟩
  clear hy hh hr hb5 T4
  obtain ⟨low, hlow⟩ : ∃ low, low = 2000 + (node : Int) * 24 := ⟨_, rfl⟩
  rw [← hlow] at H0 hl1 hl0
  clear hlow
  go_wp2_with fail
  go_loopw [11] (fun t wr => ∃ (j : Nat) (T : Tb) (D : To) (c n : Nat), j ≤ l.length ∧ t = .int .i64 j ∧ n ≤ 8 * j ∧ Tn w wr b X M md g cap y h low T D c n j) (fun t _ => l.length - (intOf t).toNat)
  case atStart => exact ⟨0, newT, _, 0, 0, by omega, rfl, by omega, H0.out⟩
  case round =>
    obtain ⟨j, T, D, c, n, hj, rfl, hn8, htl⟩ := hrel
    have H2 : Hid (Tn w wr b X M md g cap y h low T D c n j) := htl
    clear htl H0
    by_cases hlt : j < l.length
    · have hr : l[j]? = some l[j] := List.getElem?_eq_getElem hlt
      generalize l[j] = a at hr
      obtain ⟨x, o, rfl, q⟩ := HI.out j a hr
      obtain ⟨c0, c1, c2, c3, c4, c5, c6, c7, c8, c9⟩ := q.below H2.out.l.bl
      clear q HI
      have i0 : (0 : Int) ≤ (j : Int) := by omega
      have i1 : (j : Int) < (l.length : Int) := by omega
      clear hr
      have H3 : Hid (Tn w (wr.alloc (.cells #[.string a.ki, .int .i64 a.sl, .int .i64 a.f.pr, .int .i64 a.f.ia, .int .i64 a.f.ip, .int .i64 a.f.fa, .int .i64 a.f.fp, .int .i64 a.f.po, .int .i64 a.f.st, .int .i64 a.f.un] 38)) b X M md g cap y h low T D c n j) := H2.out.below (aB _ _)
      have A3 : Hid (AcAt (wr.alloc (.cells #[.string a.ki, .int .i64 a.sl, .int .i64 a.f.pr, .int .i64 a.f.ia, .int .i64 a.f.ip, .int .i64 a.f.fa, .int .i64 a.f.fp, .int .i64 a.f.po, .int .i64 a.f.st, .int .i64 a.f.un] 38)) wr.heap.size 0 a) := acAt_new _ _ _
      have HVb : Hid (wr.heap.size ≠ b) := by have := H2.out.l.t.lt; show _ ≠ _; omega
      clear H2
      rcases qa : (a.ki.toList == [97, 100, 100]) with _ | _
      · rcases qp : (a.ki.toList == [115, 101, 116]) with _ | _
        · rcases qd : (a.ki.toList == [100, 114, 111, 112]) with _ | _
          · go_wp2_with fail
            clear c0 c1 c2 c3 c4 c5 c6 c7 c8 c9 A3
            refine (next_tn H3.out (by omega) (by omega)).mono ?_
            rintro e w4 ⟨Z, L, c', rfl, hl4⟩
            have H4 : Hid (Tm w w4 b X M md g cap y h Z low T D L c c' (n + 8) j) := hl4
            have HC : Hid (c < 32) := H3.out.l.h.lt
            clear hl4 H3
            go_wp2_with fail
            refine (nextR_tn H4.out HC.out).mono ?_
            rintro e w5 ⟨p5, cp5, rfl, hr5, hq5, h85, hl5⟩
            obtain ⟨D', hD'⟩ : ∃ D', D' = toldD T D L := ⟨_, rfl⟩
            have H5 : Hid (Tn w w5 b X M md g cap y h low T D' c' (n + 8) j) := by rw [hD']; exact hl5
            have R5 : Hid (RowL w5 p5 T L) := hr5
            have Q5 : Hid (RowL w5 (some ⟨Z, 0, none⟩) T L) := hq5
            have L5 : Hid (L.length = 8) := h85
            clear hl5 hr5 hq5 h85 H4 hD'
            go_wp2_with fail
            refine (sameL_any (some ⟨Z, 0, none⟩) p5 8 cp5 T L w5 Q5.out R5.out L5.out).mono ?_
            rintro e w6 ⟨rfl, hb6⟩
            have H6 : Hid (Tn w w6 b X M md g cap y h low T D' c' (n + 8) (j + 1)) := (H5.out.below hb6).more (by omega)
            clear hb6 H5 R5 Q5 L5
            go_wp2_with fail
            refine (lag_tn H6.out).mono ?_
            rintro e w8 ⟨rfl, hl8⟩
            have H8 : Hid (Tn w w8 b X M md g cap y h low T D' c' (n + 8) (j + 1)) := hl8
            clear hl8 H6
            go_wp2_with fail
            refine (lagR_tn H8.out).mono ?_
            rintro e w9 ⟨rfl, hl9⟩
            have H9 : Hid (Tn w w9 b X M md g cap y h low T D' c' (n + 8) (j + 1)) := hl9
            have hnn : (((newsL T D').length : Int) != ((newsL T D').length : Int)) = false := by simp
            clear hl9 H8
            go_wp2_with fail
            go_roundw
            case rel => exact ⟨j + 1, T, D', c', (n + 8), by omega, by go_num, by omega, H9.out⟩
            case measure => simp [intOf]; omega
          · go_wp2_with fail
            clear c0 c1 c2 c3 c4 c5 c6 c7 c8 c9
            refine (drop_tn HS.out H3.out (by omega) a.sl).mono ?_
            rintro e w4 ⟨rfl, hl4, hk4⟩
            have A4 : Hid (AcAt w4 wr.heap.size 0 a) := A3.out.chg hk4 HVb.out
            have H4 : Hid (Th w w4 b X M md g cap y h low T (dropT T a.sl) D c n j) := hl4
            clear hl4 hk4 A3 H3
            obtain ⟨c0, c1, c2, c3, c4, c5, c6, c7, c8, c9⟩ := A4.out
            simp only [Nat.zero_add] at c0 c1 c2 c3 c4 c5 c6 c7 c8 c9
            go_wp2_with fail
            clear c0 c1 c2 c3 c4 c5 c6 c7 c8 c9
            refine (dropR_tn a.sl H4.out (by omega)).mono ?_
            rintro e w5 ⟨⟨v5, rfl⟩, hl5⟩
            obtain ⟨T', hT'⟩ : ∃ T', T' = (dropT T a.sl) := ⟨_, rfl⟩
            have H5 : Hid (Tn w w5 b X M md g cap y h low T' D c n (j + 1)) := by rw [hT']; exact hl5
            clear hl5 H4 A4 hT'
            go_wp2_with fail
            refine (lag_tn H5.out).mono ?_
            rintro e w8 ⟨rfl, hl8⟩
            have H8 : Hid (Tn w w8 b X M md g cap y h low T' D c n (j + 1)) := hl8
            clear hl8 H5
            go_wp2_with fail
            refine (lagR_tn H8.out).mono ?_
            rintro e w9 ⟨rfl, hl9⟩
            have H9 : Hid (Tn w w9 b X M md g cap y h low T' D c n (j + 1)) := hl9
            have hnn : (((newsL T' D).length : Int) != ((newsL T' D).length : Int)) = false := by simp
            clear hl9 H8
            go_wp2_with fail
            go_roundw
            case rel => exact ⟨j + 1, T', D, c, n, by omega, by go_num, by omega, H9.out⟩
            case measure => simp [intOf]; omega
        · go_wp2_with fail
          clear c0 c1 c2 c3 c4 c5 c6 c7 c8 c9
          refine (set_tn HS.out H3.out (by omega) a.sl a.f.st a.f.un).mono ?_
          rintro e w4 ⟨rfl, hl4, hk4⟩
          have A4 : Hid (AcAt w4 wr.heap.size 0 a) := A3.out.chg hk4 HVb.out
          have H4 : Hid (Th w w4 b X M md g cap y h low T (setT T a.sl a.f.st a.f.un) D c n j) := hl4
          clear hl4 hk4 A3 H3
          obtain ⟨c0, c1, c2, c3, c4, c5, c6, c7, c8, c9⟩ := A4.out
          simp only [Nat.zero_add] at c0 c1 c2 c3 c4 c5 c6 c7 c8 c9
          go_wp2_with fail
          clear c0 c1 c2 c3 c4 c5 c6 c7 c8 c9
          refine (setR_tn a.sl a.f.st a.f.un H4.out (by omega)).mono ?_
          rintro e w5 ⟨⟨v5, rfl⟩, hl5⟩
          obtain ⟨T', hT'⟩ : ∃ T', T' = (setT T a.sl a.f.st a.f.un) := ⟨_, rfl⟩
          have H5 : Hid (Tn w w5 b X M md g cap y h low T' D c n (j + 1)) := by rw [hT']; exact hl5
          clear hl5 H4 A4 hT'
          go_wp2_with fail
          refine (lag_tn H5.out).mono ?_
          rintro e w8 ⟨rfl, hl8⟩
          have H8 : Hid (Tn w w8 b X M md g cap y h low T' D c n (j + 1)) := hl8
          clear hl8 H5
          go_wp2_with fail
          refine (lagR_tn H8.out).mono ?_
          rintro e w9 ⟨rfl, hl9⟩
          have H9 : Hid (Tn w w9 b X M md g cap y h low T' D c n (j + 1)) := hl9
          have hnn : (((newsL T' D).length : Int) != ((newsL T' D).length : Int)) = false := by simp
          clear hl9 H8
          go_wp2_with fail
          go_roundw
          case rel => exact ⟨j + 1, T', D, c, n, by omega, by go_num, by omega, H9.out⟩
          case measure => simp [intOf]; omega
      · go_wp2_with fail
        clear c0 c1 c2 c3 c4 c5 c6 c7 c8 c9
        refine (add_tn HS.out H3.out (by omega) hl0.out hl1.out a.f.pr a.f.ia a.f.ip a.f.fa a.f.fp a.f.st a.f.un).mono ?_
        rintro e w4 ⟨⟨k, rfl⟩, hl4, hk4⟩
        have A4 : Hid (AcAt w4 wr.heap.size 0 a) := A3.out.chg hk4 HVb.out
        have H4 : Hid (Th w w4 b X M md g cap y h low T (addT T low a.f.pr a.f.ia a.f.ip a.f.fa a.f.fp a.f.st a.f.un).2.2 D c n j) := hl4
        clear hl4 hk4 A3 H3
        obtain ⟨c0, c1, c2, c3, c4, c5, c6, c7, c8, c9⟩ := A4.out
        simp only [Nat.zero_add] at c0 c1 c2 c3 c4 c5 c6 c7 c8 c9
        go_wp2_with fail
        clear c0 c1 c2 c3 c4 c5 c6 c7 c8 c9
        refine (addR_tn a.f.pr a.f.ia a.f.ip a.f.fa a.f.fp a.f.st a.f.un H4.out (by omega) hl0.out hl1.out).mono ?_
        rintro e w5 ⟨⟨v5, rfl⟩, hl5⟩
        obtain ⟨T', hT'⟩ : ∃ T', T' = (addT T low a.f.pr a.f.ia a.f.ip a.f.fa a.f.fp a.f.st a.f.un).2.2 := ⟨_, rfl⟩
        have H5 : Hid (Tn w w5 b X M md g cap y h low T' D c n (j + 1)) := by rw [hT']; exact hl5
        clear hl5 H4 A4 hT'
        go_wp2_with fail
        refine (lag_tn H5.out).mono ?_
        rintro e w8 ⟨rfl, hl8⟩
        have H8 : Hid (Tn w w8 b X M md g cap y h low T' D c n (j + 1)) := hl8
        clear hl8 H5
        go_wp2_with fail
        refine (lagR_tn H8.out).mono ?_
        rintro e w9 ⟨rfl, hl9⟩
        have H9 : Hid (Tn w w9 b X M md g cap y h low T' D c n (j + 1)) := hl9
        have hnn : (((newsL T' D).length : Int) != ((newsL T' D).length : Int)) = false := by simp
        clear hl9 H8
        go_wp2_with fail
        go_roundw
        case rel => exact ⟨j + 1, T', D, c, n, by omega, by go_num, by omega, H9.out⟩
        case measure => simp [intOf]; omega
    · have hle : ¬ (j : Int) < (l.length : Int) := by omega
      go_wp2_with fail
      go_ret
      exact ⟨rfl, H2.out.l.bl⟩
theorem next_any (node : Int) (v : Value) (l : List Ac) (s : Nat → Addr) (w : World) (S : Se4 w s) (I : ActsIn w v l) :
    Calls Tryd.prog 4 #[.int .i64 node, v] w fun e w' => e = .returned (.bool true) ∧ Below w.heap.size w w' := by
  by_cases h : 100 < l.length ∨ node < 0 ∨ 1 < node
  · exact next_none node v l s w S I h
  · obtain ⟨n, rfl⟩ : ∃ n : Nat, node = n := ⟨node.toNat, by omega⟩
    exact next_ok n v l s w S I (by omega) (by omega)
end Go.Proofs.YtifkbafdjkgnoaaDoor
