/-
  The law TellerSoon, walked.
-/
import Derived.Test.YtifkbafdjkgnoaaDoorTeG
import Derived.Test.YtifkbafdjkgnoaaDoorTbQ
namespace Go.Proofs.YtifkbafdjkgnoaaDoor
open Go.RowKit Go.Maps

set_option maxRecDepth 100000 in
set_option maxHeartbeats 4000000 in
theorem soon_none (ahead : Int) (v : Value) (l : List Ac) (s : Nat → Addr) (w : World) (S : Se4 w s) (I : ActsIn w v l) (h : 100 < l.length ∨ ahead < 0 ∨ 30 < ahead) :
    Calls Tryd.prog 5 #[v, .int .i64 ahead] w fun e w' => e = .returned (.bool true) ∧ Below w.heap.size w w' := by
  have HS : Hid (Se4 w s) := S
  obtain ⟨p, cap, rfl, _⟩ := I
  clear S
  go_enter Tryd.func5, Tryd.ntmps5
  go_wp2_with fail
  refine (tells_any s _ HS.out).mono ?_
  rintro e w1 ⟨rfl, hb1⟩
  have B1 : Hid (Below w.heap.size w w1) := hb1
  clear hb1
  by_cases h1 : (100 : Int) < (l.length : Int)
  · clear h
    go_wp2_with fail
    all_goals go_ret
    all_goals exact ⟨rfl, B1.out⟩
  by_cases h2 : ahead < 0
  · clear h
    go_wp2_with fail
    all_goals go_ret
    all_goals exact ⟨rfl, B1.out⟩
  have h3 : 30 < ahead := by omega
  clear h
  go_wp2_with fail
  all_goals go_ret
  all_goals exact ⟨rfl, B1.out⟩
theorem rows_slot {w : World} {Z : Nat} {T : Tb} {L : List Nat} (h : RowsB w Z T L) {j s : Nat} (hj : L[j]? = some s) : w.cell? ⟨Z, j * 10, none⟩ = some (.int .i64 s) := by
  have := h.at' (k := 0) hj (by omega)
  simpa [Ce.get] using this
theorem nodup_ne {L : List Nat} (h : L.Nodup) {i k a b : Nat} (hi : L[i]? = some a) (hk : L[k]? = some b) (hn : k < i) : a ≠ b := by
  obtain ⟨h1, e1⟩ := List.getElem?_eq_some_iff.1 hi
  obtain ⟨h2, e2⟩ := List.getElem?_eq_some_iff.1 hk
  have := (List.pairwise_iff_getElem.1 h) k i h2 h1 hn
  rw [e1, e2] at this
  exact fun e => this e.symm
set_option maxRecDepth 100000 in
set_option maxHeartbeats 8000000 in
theorem soon_ok (ahead : Nat) (v : Value) (l : List Ac) (s : Nat → Addr) (w : World) (S : Se4 w s) (I : ActsIn w v l) (hl : l.length ≤ 100) (hn : ahead ≤ 30) :
    Calls Tryd.prog 5 #[v, .int .i64 ahead] w fun e w' => e = .returned (.bool true) ∧ Below w.heap.size w w' := by
  have HS : Hid (Se4 w s) := S
  obtain ⟨p, cap, rfl, I0⟩ := I
  have HI : Hid (∀ (i : Nat) a, l[i]? = some a → ∃ b o, p = some ⟨b, o, none⟩ ∧ AcAt w b (o + i * 10) a) := I0
  clear S I0
  have h1 : ¬ (100 : Int) < (l.length : Int) := by omega
  have h2 : ¬ (ahead : Int) < 0 := by omega
  have h3 : ¬ (30 : Int) < (ahead : Int) := by omega
  go_enter Tryd.func5, Tryd.ntmps5
  go_wp2_with fail
  refine (tells_any s _ HS.out).mono ?_
  rintro e w1 ⟨rfl, hb1⟩
  have B1 : Hid (Below w.heap.size w w1) := hb1
  clear hb1
  go_wp2_with fail
  refine (new_0 w1).mono ?_
  rintro e w2 ⟨b, rfl, t2', hbb, hb2⟩
  have T2 : Hid (Tab w2 b 2000 newT) := t2'
  have B2 : Hid (Below w.heap.size w w2) := t2 B1.out hb2
  have HW : Hid (w.heap.size ≤ b) := Nat.le_trans B1.out.size hbb
  clear t2' hbb hb2 B1
  go_wp2_with fail
  refine (tnew_any b w2).mono ?_
  rintro e w3 ⟨⟨X, M, rfl, hx, hm, hh⟩, hb3⟩
  have L3 : Hid (Tl w w3 b X M 2000 newT (fun _ => 0) 0 0 0) := tl_new T2.out B2.out HW.out hb3 hx hm hh
  clear hx hm hh hb3 T2 B2 HW
  go_wp2_with fail
  go_loopw [9] (fun t wr => ∃ (j : Nat) (D : To) (c : Nat), j ≤ ahead ∧ t = .int .i64 j ∧ Tl w wr b X M 2000 newT D c (8 * j) 0) (fun t _ => ahead - (intOf t).toNat)
  case atStart => exact ⟨0, _, _, by omega, rfl, L3.out⟩
  case round =>
    obtain ⟨j, D, c, hj, rfl, htl⟩ := hrel
    have H1 : Hid (Tl w wr b X M 2000 newT D c (8 * j) 0) := htl
    clear htl L3
    by_cases hlt : j < ahead
    · have hlt' : (j : Int) < (ahead : Int) := by omega
      go_wp2_with fail
      refine (next_tl H1.out (by omega) (by omega)).mono ?_
      rintro e w4 ⟨Z, L, c', _, rfl, _, _, hl4⟩
      have H4 : Hid (Tl w w4 b X M 2000 newT (toldD newT D L) c' (8 * j + 8) 0) := hl4
      clear hl4 H1
      go_wp2_with fail
      go_roundw
      case rel => exact ⟨j + 1, _, _, by omega, by go_num, H4.out⟩
      case measure => simp [intOf]; omega
    · have hlt' : ¬ (j : Int) < (ahead : Int) := by omega
      obtain ⟨n, hn8⟩ : ∃ n, n = 8 * j := ⟨_, rfl⟩
      have hn240 : n ≤ 240 := by omega
      rw [← hn8] at H1
      clear hn8
      go_wp2_with fail
      go_loopw [10] (fun t wr => ∃ (j : Nat) (T : Tb), j ≤ l.length ∧ t = .int .i64 j ∧ Tl w wr b X M 2000 T D c n j) (fun t _ => l.length - (intOf t).toNat)
      case atStart => exact ⟨0, newT, by omega, rfl, H1.out⟩
      case round =>
        obtain ⟨j, T, hj, rfl, htl⟩ := hrel
        have H2 : Hid (Tl w wr b X M 2000 T D c n j) := htl
        clear htl H1
        by_cases hlt : j < l.length
        · have hr : l[j]? = some l[j] := List.getElem?_eq_getElem hlt
          generalize l[j] = a at hr
          obtain ⟨x, o, rfl, g⟩ := HI.out j a hr
          obtain ⟨c0, c1, c2, c3, c4, c5, c6, c7, c8, c9⟩ := g.below H2.out.bl
          clear g HI
          have i0 : (0 : Int) ≤ (j : Int) := by omega
          have i1 : (j : Int) < (l.length : Int) := by omega
          clear hr
          have H3 : Hid (Tl w (wr.alloc (.cells #[.string a.ki, .int .i64 a.sl, .int .i64 a.f.pr, .int .i64 a.f.ia, .int .i64 a.f.ip, .int .i64 a.f.fa, .int .i64 a.f.fp, .int .i64 a.f.po, .int .i64 a.f.st, .int .i64 a.f.un] 38)) b X M 2000 T D c n j) := H2.out.below (aB _ _)
          rcases qa : (a.ki.toList == [97, 100, 100]) with _ | _
          · rcases qp : (a.ki.toList == [115, 101, 116]) with _ | _
            · rcases qd : (a.ki.toList == [100, 114, 111, 112]) with _ | _
              · go_wp2_with fail
                exact ⟨⟨j + 1, T, by omega, by go_num, { H3.out with v := H3.out.v.more (by omega) }⟩, by simp [intOf]; omega⟩
              · go_wp2_with fail
                clear c0 c1 c2 c3 c4 c5 c6 c7 c8 c9 qa qp qd
                refine (drop_tl HS.out H3.out (by omega) a.sl).mono ?_
                rintro e w4 ⟨rfl, hl4⟩
                have H4 : Hid (Tl w w4 b X M 2000 (dropT T a.sl) D c n (j + 1)) := hl4
                clear hl4 H3
                go_wp2_with fail
                exact ⟨⟨j + 1, _, by omega, by go_num, H4.out⟩, by simp [intOf]; omega⟩
            · go_wp2_with fail
              clear c0 c1 c2 c3 c4 c5 c6 c7 c8 c9 qa qp
              refine (set_tl HS.out H3.out (by omega) a.sl a.f.st a.f.un).mono ?_
              rintro e w4 ⟨rfl, hl4⟩
              have H4 : Hid (Tl w w4 b X M 2000 (setT T a.sl a.f.st a.f.un) D c n (j + 1)) := hl4
              clear hl4 H3
              go_wp2_with fail
              exact ⟨⟨j + 1, _, by omega, by go_num, H4.out⟩, by simp [intOf]; omega⟩
          · go_wp2_with fail
            clear c0 c1 c2 c3 c4 c5 c6 c7 c8 c9 qa
            refine (add_tl HS.out H3.out (by omega) (by omega) (by omega) a.f.pr a.f.ia a.f.ip a.f.fa a.f.fp a.f.st a.f.un).mono ?_
            rintro e w4 ⟨⟨k, rfl⟩, hl4⟩
            have H4 : Hid (Tl w w4 b X M 2000 (addT T 2000 a.f.pr a.f.ia a.f.ip a.f.fa a.f.fp a.f.st a.f.un).2.2 D c n (j + 1)) := hl4
            clear hl4 H3
            go_wp2_with fail
            exact ⟨⟨j + 1, _, by omega, by go_num, H4.out⟩, by simp [intOf]; omega⟩
        · have hle : ¬ (j : Int) < (l.length : Int) := by omega
          go_wp2_with fail
          refine (lag_tl H2.out).mono ?_
          rintro e w3 ⟨rfl, hl3⟩
          have H3 : Hid (Tl w w3 b X M 2000 T D c n j) := hl3
          have hN := newsL_len T D
          clear hl3 H2
          go_wp2_with fail
          go_loopw [12] (fun t wr => ∃ (x : Int) (D' : To) (c' n' : Nat), t = .int .i64 x ∧ -8 < x ∧ x ≤ 32 ∧ ((newsL T D').length : Int) = max 0 x ∧ x + n' ≤ 272 ∧ Tl w wr b X M 2000 T D' c' n' j) (fun t _ => (intOf t + 8).toNat)
          case atStart => exact ⟨_, D, c, n, rfl, by omega, by omega, by omega, by omega, H3.out⟩
          case round =>
            obtain ⟨x, D', c', n', rfl, hx1, hx2, hx3, hx4, htl⟩ := hrel
            have H4 : Hid (Tl w wr b X M 2000 T D' c' n' j) := htl
            have HX3 : Hid (((newsL T D').length : Int) = max 0 x) := hx3
            clear htl H3 hx3
            by_cases hx0 : 0 < x
            · go_wp2_with fail
              refine (next_tl H4.out (by omega) (by omega)).mono ?_
              rintro e w5 ⟨Z, L, c5, hxx, rfl, _, hr5, hl5⟩
              have R5 : Hid (Tl w w5 b X M 2000 T (toldD T D' L) c5 (n' + 8) j ∧ RowsB w5 Z T L) := ⟨hl5, hr5⟩
              have ND : Hid (L.Nodup ∧ L.length = 8) := ⟨hxx.nodup, hxx.len⟩
              have HX5 : Hid (((newsL T (toldD T D' L)).length : Int) = max 0 (x - 8)) := by
                show _ = _
                rw [hxx.news, List.length_drop]
                have := HX3.out
                omega
              obtain ⟨D5, hD5⟩ : ∃ D5, D5 = toldD T D' L := ⟨_, rfl⟩
              rw [← hD5] at R5 HX5
              clear hl5 hr5 hxx H4 HX3 hD5
              go_wp2_with fail
              go_loopw [14] (fun t wi => ∃ i : Nat, i ≤ 8 ∧ t = .int .i64 i ∧ (Tl w wi b X M 2000 T D5 c5 (n' + 8) j ∧ RowsB wi Z T L)) (fun t _ => 8 - (intOf t).toNat)
              case atStart => exact ⟨0, by omega, rfl, R5.out⟩
              case round =>
                obtain ⟨i, hi, rfl, hri⟩ := hrel
                have RI : Hid (Tl w wr b X M 2000 T D5 c5 (n' + 8) j ∧ RowsB wr Z T L) := hri
                clear hri R5
                by_cases hi8 : i < 8
                · have hdi : decide ((i : Int) < 8) = true := decide_eq_true (by omega)
                  go_wp2_with fail
                  try rw [hdi]
                  go_loopw [15] (fun t wi => ∃ k : Nat, k ≤ i ∧ t = .int .i64 k ∧ (Tl w wi b X M 2000 T D5 c5 (n' + 8) j ∧ RowsB wi Z T L)) (fun t _ => i - (intOf t).toNat)
                  case atStart => exact ⟨0, by omega, rfl, RI.out⟩
                  case round =>
                    obtain ⟨k, hk, rfl, hrk⟩ := hrel
                    have RK : Hid (Tl w wr b X M 2000 T D5 c5 (n' + 8) j ∧ RowsB wr Z T L) := hrk
                    clear hrk RI
                    by_cases hki : k < i
                    · have hki' : (k : Int) < (i : Int) := by omega
                      have j0 : (0 : Int) ≤ (i : Int) := by omega
                      have j1 : (i : Int) < 8 := by omega
                      have j2 : (0 : Int) ≤ (k : Int) := by omega
                      have j3 : (k : Int) < 8 := by omega
                      have hL8 := ND.out.2
                      obtain ⟨sa, ha⟩ : ∃ a, L[i]? = some a := ⟨_, List.getElem?_eq_getElem (by omega)⟩
                      obtain ⟨sb, hb⟩ : ∃ a, L[k]? = some a := ⟨_, List.getElem?_eq_getElem (by omega)⟩
                      have hne := nodup_ne ND.out.1 ha hb hki
                      have hq : ((sa : Int) == (sb : Int)) = false := beq_eq_false_iff_ne.2 (by omega)
                      have a0 := rows_slot RK.out.2 ha
                      have b0 := rows_slot RK.out.2 hb
                      have RK2 : Hid (Tl w wr.drew b X M 2000 T D5 c5 (n' + 8) j ∧ RowsB wr.drew Z T L) := ⟨RK.out.1.below (Below.refl _ _).drew, RK.out.2.below (Below.refl _ _).drew⟩
                      clear hL8 ha hb hne RK
                      go_wp2_with fail
                      go_region
                      all_goals
                        go_wp2_with fail
                        go_roundw
                        case rel => exact ⟨k + 1, by omega, by go_num, RK2.out⟩
                        case measure => simp [intOf]; omega
                    · have hki' : ¬ (k : Int) < (i : Int) := by omega
                      go_wp2_with fail
                      go_roundw
                      case rel => exact ⟨i + 1, by omega, by go_num, RK.out⟩
                      case measure => simp [intOf]; omega
                · have hdi : ¬ ((i : Int) < 8) := by omega
                  by_cases hx8 : 8 < x
                  · go_wp2_with fail
                    refine (lag_tl RI.out.1).mono ?_
                    rintro e w6 ⟨rfl, hl6⟩
                    have H6 : Hid (Tl w w6 b X M 2000 T D5 c5 (n' + 8) j) := hl6
                    clear hl6 RI
                    have hqq : ((newsL T D5).length : Int) = x - 8 := by have := HX5.out; omega
                    rw [hqq]
                    clear hqq
                    have hb8 : ((x - 8 : Int) != x - 8) = false := by simp
                    go_wp2_with fail
                    go_roundw
                    case rel => exact ⟨x - 8, D5, c5, n' + 8, rfl, by omega, by omega, HX5.out, by omega, H6.out⟩
                    case measure => simp [intOf]; omega
                  · go_wp2_with fail
                    go_roundw
                    case rel => exact ⟨x - 8, D5, c5, n' + 8, rfl, by omega, by omega, HX5.out, by omega, RI.out.1⟩
                    case measure => simp [intOf]; omega
            · go_wp2_with fail
              refine (lag_tl H4.out).mono ?_
              rintro e w6 ⟨rfl, hl6⟩
              have H6 : Hid (Below w.heap.size w w6) := hl6.bl
              have hqq : ((newsL T D').length : Int) = 0 := by have := HX3.out; omega
              rw [hqq]
              clear hl6 hqq
              go_wp2_with fail
              go_ret
              exact ⟨rfl, H6.out⟩
theorem soon_any (ahead : Int) (v : Value) (l : List Ac) (s : Nat → Addr) (w : World) (S : Se4 w s) (I : ActsIn w v l) :
    Calls Tryd.prog 5 #[v, .int .i64 ahead] w fun e w' => e = .returned (.bool true) ∧ Below w.heap.size w w' := by
  by_cases h : 100 < l.length ∨ ahead < 0 ∨ 30 < ahead
  · exact soon_none ahead v l s w S I h
  · obtain ⟨n, rfl⟩ : ∃ n : Nat, ahead = n := ⟨ahead.toNat, by omega⟩
    exact soon_ok n v l s w S I (by omega) (by omega)
end Go.Proofs.YtifkbafdjkgnoaaDoor
