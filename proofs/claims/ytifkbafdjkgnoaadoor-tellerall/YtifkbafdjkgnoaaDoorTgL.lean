/-
  The law TellerAll, walked.
-/
import Derived.Test.YtifkbafdjkgnoaaDoorMiK
import Derived.Test.YtifkbafdjkgnoaaDoorTgA
import Derived.Test.YtifkbafdjkgnoaaDoorTbQ
namespace Go.Proofs.YtifkbafdjkgnoaaDoor
open Go.RowKit Go.Maps

set_option maxRecDepth 100000 in
set_option maxHeartbeats 4000000 in
theorem all_none (lost : Int) (v : Value) (l : List Ac) (s : Nat → Addr) (w : World) (S : Se4 w s) (I : ActsIn w v l) (h : 100 < l.length ∨ lost < 0 ∨ 30 < lost) :
    Calls Tryd.prog 3 #[v, .int .i64 lost] w fun e w' => e = .returned (.bool true) ∧ Below w.heap.size w w' := by
  have HS : Hid (Se4 w s) := S
  obtain ⟨p, cap, rfl, _⟩ := I
  clear S
  go_enter Tryd.func3, Tryd.ntmps3
  go_wp2_with fail
  refine (tells_any s _ HS.out).mono ?_
  rintro e w1 ⟨rfl, hb1⟩
  have B1 : Hid (Below w.heap.size w w1) := hb1
  clear hb1
  by_cases h1 : (100 : Int) < (l.length : Int)
  · clear h
    go_wp2_with fail
    all_goals go_ret
    all_goals exact ⟨rfl, B1.out⟩
  by_cases h2 : lost < 0
  · clear h
    go_wp2_with fail
    all_goals go_ret
    all_goals exact ⟨rfl, B1.out⟩
  have h3 : 30 < lost := by omega
  clear h
  go_wp2_with fail
  all_goals go_ret
  all_goals exact ⟨rfl, B1.out⟩
set_option maxRecDepth 100000 in
set_option maxHeartbeats 8000000 in
theorem all_ok (lost : Nat) (v : Value) (l : List Ac) (s : Nat → Addr) (w : World) (S : Se4 w s) (S2 : Se2 w s) (I : ActsIn w v l) (hl : l.length ≤ 100) (hn : lost ≤ 30) :
    Calls Tryd.prog 3 #[v, .int .i64 lost] w fun e w' => e = .returned (.bool true) ∧ Below w.heap.size w w' := by
  have HS : Hid (Se4 w s) := S
  have HS2 : Hid (Se2 w s) := S2
  obtain ⟨p, cap, rfl, I0⟩ := I
  have HI : Hid (∀ (i : Nat) a, l[i]? = some a → ∃ b o, p = some ⟨b, o, none⟩ ∧ AcAt w b (o + i * 10) a) := I0
  clear S S2 I0
  have h1 : ¬ (100 : Int) < (l.length : Int) := by omega
  have h2 : ¬ (lost : Int) < 0 := by omega
  have h3 : ¬ (30 : Int) < (lost : Int) := by omega
  go_enter Tryd.func3, Tryd.ntmps3
  go_wp2_with fail
  refine (tells_any s _ HS.out).mono ?_
  rintro e w1 ⟨rfl, hb1⟩
  have B1 : Hid (Below w.heap.size w w1) := hb1
  clear hb1
  go_wp2_with fail
  refine (new_0 w1).mono ?_
  rintro e w2 ⟨b, rfl, t2', hbb, hb2⟩
  have T2 : Hid (Tab w2 b 2000 newT) := t2'
  have B2 : Hid (Below w.heap.size w w2) := t2 B1.out hb2
  have HW : Hid (w.heap.size ≤ b) := Nat.le_trans B1.out.size hbb
  clear t2' hbb hb2 B1
  go_wp2_with fail
  refine (tnew_any b w2).mono ?_
  rintro e w3 ⟨⟨X, M, rfl, hx, hm, hh⟩, hb3⟩
  have L3 : Hid (Tl w w3 b X M 2000 newT (fun _ => 0) 0 0 0) := tl_new T2.out B2.out HW.out hb3 hx hm hh
  clear hx hm hh hb3 T2 B2 HW
  go_wp2_with fail
  refine (mnew_any w3).mono ?_
  rintro e w4 ⟨⟨g, rfl, hg, hgl⟩, hb4⟩
  have L4 : Hid (Ta w w4 b X M g 2000 newT (fun _ => 0) 0 0 0 0 newT) := by
    have e2 := L3.out.t.lt
    have e3 := tlt L3.out.h.c0
    have e4 := L3.out.h.m.lt
    have e5 := L3.out.bl.size
    simp only at e3
    exact ⟨L3.out.below hb4, Zer.new, hg, by omega, by omega, by omega, by omega⟩
  clear hg hgl hb4 L3
  go_wp2_with fail
  go_loopw [10] (fun t wr => ∃ (j : Nat) (T : Tb), j ≤ l.length ∧ t = .int .i64 j ∧ Ta w wr b X M g 2000 T (fun _ => 0) 0 0 j 0 newT) (fun t _ => l.length - (intOf t).toNat)
  case atStart => exact ⟨0, newT, by omega, rfl, L4.out⟩
  case round =>
    obtain ⟨j, T, hj, rfl, htl⟩ := hrel
    have H2 : Hid (Ta w wr b X M g 2000 T (fun _ => 0) 0 0 j 0 newT) := htl
    clear htl L4
    by_cases hlt : j < l.length
    · have hr : l[j]? = some l[j] := List.getElem?_eq_getElem hlt
      generalize l[j] = a at hr
      obtain ⟨x, o, rfl, q⟩ := HI.out j a hr
      obtain ⟨c0, c1, c2, c3, c4, c5, c6, c7, c8, c9⟩ := q.below H2.out.l.bl
      clear q HI
      have i0 : (0 : Int) ≤ (j : Int) := by omega
      have i1 : (j : Int) < (l.length : Int) := by omega
      clear hr
      have H3 : Hid (Ta w (wr.alloc (.cells #[.string a.ki, .int .i64 a.sl, .int .i64 a.f.pr, .int .i64 a.f.ia, .int .i64 a.f.ip, .int .i64 a.f.fa, .int .i64 a.f.fp, .int .i64 a.f.po, .int .i64 a.f.st, .int .i64 a.f.un] 38)) b X M g 2000 T (fun _ => 0) 0 0 j 0 newT) := H2.out.below (aB _ _)
      rcases qa : (a.ki.toList == [97, 100, 100]) with _ | _
      · rcases qp : (a.ki.toList == [115, 101, 116]) with _ | _
        · rcases qd : (a.ki.toList == [100, 114, 111, 112]) with _ | _
          · go_wp2_with fail
            exact ⟨⟨j + 1, T, by omega, by go_num, H3.out.more (by omega)⟩, by simp [intOf]; omega⟩
          · go_wp2_with fail
            clear c0 c1 c2 c3 c4 c5 c6 c7 c8 c9 qa qp qd
            refine (drop_ta HS.out H3.out (by omega) a.sl).mono ?_
            rintro e w4 ⟨rfl, hl4⟩
            have H4 : Hid (Ta w w4 b X M g 2000 (dropT T a.sl) (fun _ => 0) 0 0 (j + 1) 0 newT) := hl4
            clear hl4 H3
            go_wp2_with fail
            exact ⟨⟨j + 1, _, by omega, by go_num, H4.out⟩, by simp [intOf]; omega⟩
        · go_wp2_with fail
          clear c0 c1 c2 c3 c4 c5 c6 c7 c8 c9 qa qp
          refine (set_ta HS.out H3.out (by omega) a.sl a.f.st a.f.un).mono ?_
          rintro e w4 ⟨rfl, hl4⟩
          have H4 : Hid (Ta w w4 b X M g 2000 (setT T a.sl a.f.st a.f.un) (fun _ => 0) 0 0 (j + 1) 0 newT) := hl4
          clear hl4 H3
          go_wp2_with fail
          exact ⟨⟨j + 1, _, by omega, by go_num, H4.out⟩, by simp [intOf]; omega⟩
      · go_wp2_with fail
        clear c0 c1 c2 c3 c4 c5 c6 c7 c8 c9 qa
        refine (add_ta HS.out H3.out (by omega) (by omega) (by omega) a.f.pr a.f.ia a.f.ip a.f.fa a.f.fp a.f.st a.f.un).mono ?_
        rintro e w4 ⟨⟨k, rfl⟩, hl4⟩
        have H4 : Hid (Ta w w4 b X M g 2000 (addT T 2000 a.f.pr a.f.ia a.f.ip a.f.fa a.f.fp a.f.st a.f.un).2.2 (fun _ => 0) 0 0 (j + 1) 0 newT) := hl4
        clear hl4 H3
        go_wp2_with fail
        exact ⟨⟨j + 1, _, by omega, by go_num, H4.out⟩, by simp [intOf]; omega⟩
    · have hle : ¬ (j : Int) < (l.length : Int) := by omega
      go_wp2_with fail
      go_loopw [12] (fun t wr => ∃ (i : Nat) (D : To) (c : Nat), i ≤ lost ∧ t = .int .i64 i ∧ Ta w wr b X M g 2000 T D c (8 * i) j 0 newT) (fun t _ => lost - (intOf t).toNat)
      case atStart => exact ⟨0, _, _, by omega, rfl, H2.out⟩
      case round =>
        obtain ⟨i, D, c, hi, rfl, htl⟩ := hrel
        have H3 : Hid (Ta w wr b X M g 2000 T D c (8 * i) j 0 newT) := htl
        clear htl H2
        by_cases hlt : i < lost
        · have hlt' : (i : Int) < (lost : Int) := by omega
          go_wp2_with fail
          refine (next_ta H3.out (by omega) (by omega)).mono ?_
          rintro e w5 ⟨Z, L, c', _, rfl, _, _, hl5⟩
          have H5 : Hid (Ta w w5 b X M g 2000 T (toldD T D L) c' (8 * i + 8) j 0 newT) := hl5
          clear hl5 H3
          go_wp2_with fail
          go_roundw
          case rel => exact ⟨i + 1, _, _, by omega, by go_num, H5.out⟩
          case measure => simp [intOf]; omega
        · have hlt' : ¬ (i : Int) < (lost : Int) := by omega
          obtain ⟨n, hn8⟩ : ∃ n, n = 8 * i := ⟨_, rfl⟩
          have hn240 : n ≤ 240 := by omega
          rw [← hn8] at H3
          clear hn8
          go_wp2_with fail
          go_loopw [14] (fun t wr => ∃ (i : Nat) (D : To) (c n' : Nat) (life : Int) (G : Tb), i ≤ 9 ∧ t = .int .i64 i ∧ n' = n + 8 * i ∧ Hrd T D c G i ∧ (life = 1 ∨ (life = 0 ∧ G = newT)) ∧ Ta w wr b X M g 2000 T D c n' j life G) (fun t _ => 9 - (intOf t).toNat)
          case atStart => exact ⟨0, D, c, n, 0, newT, by omega, rfl, rfl, Hrd.start T D c, .inr ⟨rfl, rfl⟩, H3.out⟩
          case round =>
            obtain ⟨i, D, c, n', life, G, hi, rfl, hn', hh, hlf, htl⟩ := hrel
            have H4 : Hid (Ta w wr b X M g 2000 T D c n' j life G) := htl
            have HH : Hid (Hrd T D c G i) := hh
            have HL : Hid (life = 1 ∨ (life = 0 ∧ G = newT)) := hlf
            have HN' : Hid (n' = n + 8 * i) := hn'
            have hn'' : n' ≤ 400 := by omega
            clear htl H3 hh hlf hn'
            by_cases hi9 : i < 9
            · have hi9' : (i : Int) ≤ 8 := by omega
              go_wp2_with fail
              refine (next_ta H4.out (by omega) (by omega)).mono ?_
              rintro e w5 ⟨Z, L, c', hx, rfl, hz, hr5, hl5⟩
              have H5 : Hid (Ta w w5 b X M g 2000 T (toldD T D L) c' (n' + 8) j life G) := hl5
              have R5 : Hid (RowsB w5 Z T L) := hr5
              have HZ : Hid (Z ≠ g ∧ Z ≠ b ∧ Z ≠ X ∧ Z ≠ M) := hz
              have HX : Hid (L.length = 8 ∧ ∀ x ∈ L, x < 32) := ⟨hx.len, hx.lt⟩
              have HH5 : Hid (Hrd T (toldD T D L) c' (takeL G (tcs T L)) (i + 1)) := HH.out.next hx H4.out.l.h.lt H4.out.z H4.out.l.v
              clear hl5 hr5 hz hx H4 HH
              go_wp2_with fail
              refine (tell_ta HS2.out H5.out R5.out HX.out.1 HX.out.2 HZ.out HL.out).mono ?_
              rintro e w6 ⟨rfl, hl6⟩
              have H6 : Hid (Ta w w6 b X M g 2000 T (toldD T D L) c' (n' + 8) j 1 (takeL G (tcs T L))) := hl6
              clear hl6 H5 R5 HZ HX HL
              go_wp2_with fail
              go_roundw
              case rel => exact ⟨i + 1, _, _, n' + 8, 1, _, by omega, by go_num, by rw [HN'.out]; omega, HH5.out, .inl rfl, H6.out⟩
              case measure => simp [intOf]; omega
            · obtain rfl : i = 9 := by omega
              obtain ⟨e1, e2⟩ := HH.out.all
              have HE : Hid (∀ k, k < 32 → G k = T k) := e2
              have HE1 : Hid (newsL T D = []) := e1
              clear e1 e2
              go_wp2_with fail
              refine (lag_ta H4.out).mono ?_
              rintro e w5 ⟨rfl, hl5⟩
              have H5 : Hid (Ta w w5 b X M g 2000 T D c n' j life G) := hl5
              rw [HE1.out]
              clear hl5 H4 HE1 HH
              simp only [List.length_nil]
              go_wp2_with fail
              refine (mcells_any g life G w5 H5.out.mi).mono ?_
              rintro e w6 ⟨rfl, hc6, hb6⟩
              have C6 : Hid (Sl10 w6 w5.heap.size T) := hc6.sl.congr HE.out
              have H6 : Hid (Ta w w6 b X M g 2000 T D c n' j life G) := H5.out.below hb6
              clear hc6 hb6 H5
              go_wp2_with fail
              refine (cells_any b 2000 T w6 H6.out.l.t).mono ?_
              rintro e w7 ⟨rfl, hc7, hb7⟩
              have C7 : Hid (Sl10 w7 w6.heap.size T) := hc7.sl
              have D7 : Hid (Sl10 w7 w5.heap.size T) := C6.out.below hb7
              have B7 : Hid (Below w.heap.size w w7) := t2 H6.out.l.bl hb7
              clear hc7 hb7 C6 H6
              go_wp2_with fail
              refine (msame_any w5.heap.size w6.heap.size 32 32 T w7 D7.out C7.out).mono ?_
              rintro e w8 ⟨rfl, hb8⟩
              have B8 : Hid (Below w.heap.size w w8) := t2 B7.out hb8
              clear hb8 C7 D7 B7
              go_wp2_with fail
              go_ret
              exact ⟨rfl, B8.out⟩
theorem all_any (lost : Int) (v : Value) (l : List Ac) (s : Nat → Addr) (w : World) (S : Se4 w s) (S2 : Se2 w s) (I : ActsIn w v l) :
    Calls Tryd.prog 3 #[v, .int .i64 lost] w fun e w' => e = .returned (.bool true) ∧ Below w.heap.size w w' := by
  by_cases h : 100 < l.length ∨ lost < 0 ∨ 30 < lost
  · exact all_none lost v l s w S I h
  · obtain ⟨n, rfl⟩ : ∃ n : Nat, lost = n := ⟨lost.toNat, by omega⟩
    exact all_ok n v l s w S S2 I (by omega) (by omega)
end Go.Proofs.YtifkbafdjkgnoaaDoor
