/-
  The law RoleApart: no epoch is claimed twice, those of each rise, of two that have heard each other at most one is active.
-/
import Derived.Test.YtneoflcfhdjcoabDoorRpA
import Derived.Test.YtneoflcfhdjcoabDoorIntO
namespace Go.Proofs.YtneoflcfhdjcoabDoor
open Go.RowKit

theorem tdiv2 {n : Int} (h : 0 ≤ n) : Int.tdiv n 2 = n / 2 := Int.tdiv_eq_ediv_of_nonneg h
set_option maxRecDepth 100000 in
set_option maxHeartbeats 8000000 in
theorem apart_any (v : Value) (l : List Int) (s : Nat → Addr) (w : World) (S : Se3 w s) (I : IntsI w v l) :
    Calls Tryd.prog 11 #[v] w fun e w' => e = .returned (.bool true) ∧ Below w.heap.size w w' := by
  obtain ⟨p, cap, rfl, hat⟩ := I
  obtain ⟨i0, hi, hz0, hz1, hz2⟩ := info_parts Tryd.infoIp
  have HS : Hid (Se3 w s) := S
  have HAT : Hid (∀ (i : Nat) x, l[i]? = some x → ∃ b o, p = some ⟨b, o, none⟩ ∧ w.cell? ⟨b, o + i, none⟩ = some (.int .i64 x) ∧ -9223372036854775808 ≤ x ∧ x ≤ 9223372036854775807) := hat
  clear S hat
  by_cases hlen : l.length ≤ 200
  · have x4 : ¬ (200 : Int) < (l.length : Int) := by omega
    have HL : Hid (l.length ≤ 200) := hlen
    go_enter Tryd.func11, Tryd.ntmps11
    go_wp2_with fail
    refine (stands_any s w HS.out).mono ?_
    rintro e w0 ⟨rfl, hb0⟩
    have B0 : Hid (Below w.heap.size w w0) := hb0
    clear hb0
    go_wp2_with fail
    refine (newR_ok 0 0 w0 (Or.inl rfl) (by omega) (by omega)).mono ?_
    rintro e w1 ⟨⟨rfl, ha1⟩, hb1⟩
    have A1 : Hid (Rol w1 w0.heap.size (rr0 0)) := ha1
    have B1 : Hid (Below w0.heap.size w0 w1) := hb1
    clear ha1 hb1
    go_wp2_with fail
    refine (newR_ok 1 0 w1 (Or.inr rfl) (by omega) (by omega)).mono ?_
    rintro e w2 ⟨⟨rfl, ha2⟩, hb2⟩
    have A2 : Hid (Rol w2 w1.heap.size (rr0 1)) := ha2
    have A1' : Hid (Rol w2 w0.heap.size (rr0 0)) := A1.out.below hb2
    have B2 : Hid (Below w.heap.size w w2) := t2 B0.out (t2 B1.out hb2)
    have L1 : Hid (w0.heap.size < w1.heap.size ∧ w1.heap.size < w2.heap.size ∧ w.heap.size ≤ w0.heap.size) := ⟨A1.out.lt, ha2.lt, B0.out.size⟩
    clear ha2 hb2 A1 B0 B1 x4
    go_wp2_with fail
    obtain ⟨bk, hk0, hk1⟩ : ∃ bk : Nat → Nat, bk 0 = w0.heap.size ∧ bk 1 = w1.heap.size := ⟨fun c => if c = 0 then w0.heap.size else w1.heap.size, rfl, rfl⟩
    obtain ⟨bl, hbl⟩ : ∃ bl, bl = w2.heap.size + 1 := ⟨_, rfl⟩
    rw [← hk0, ← hk1, ← hbl]
    have P0 : Hid (Ap w ((w2.alloc (.cells #[.pointer (some ⟨bk 0, 0, none⟩), .pointer (some ⟨bk 1, 0, none⟩)] 110)).alloc (.cells #[.int .i64 0, .int .i64 0] 3)) bk w2.heap.size bl (bl + 1) rr0 (fun _ => 0) (.slice none 0 0) []) := by
      have hL := L1.out
      have hT : Below w2.heap.size w2 ((w2.alloc (.cells #[.pointer (some ⟨bk 0, 0, none⟩), .pointer (some ⟨bk 1, 0, none⟩)] 110)).alloc (.cells #[.int .i64 0, .int .i64 0] 3)) := t2 (aB _ _) (aB _ _)
      have h2 : ∀ c, c < 2 → c = 0 ∨ c = 1 := fun c hc => by omega
      refine ⟨fun c hc => ?_, fun c hc => ?_, ?_, World.ownsRow_nil _ _ _ _, ⟨by omega, fun c hc => ?_, fun c hc => ?_, by omega, fun c hc => ?_, by omega, by omega⟩, by simp; omega, t2 B2.out hT⟩
      · rcases h2 c hc with rfl | rfl
        · have := A1'.out.below hT
          rw [← hk0] at this
          exact this
        · have := A2.out.below hT
          rw [← hk1] at this
          exact this
      · refine tk (aB _ _) ?_
        rw [nw]
        rcases h2 c hc with rfl | rfl <;> rfl
      · rw [hbl]; exact heap_alloc2_new _ _ _
      · rcases h2 c hc with rfl | rfl <;> omega
      · rcases h2 c hc with rfl | rfl <;> omega
      · rcases h2 c hc with rfl | rfl <;> omega
    clear A1' A2 B2 L1 hk0 hk1 hbl
    generalize (w2.alloc (.cells #[.pointer (some ⟨bk 0, 0, none⟩), .pointer (some ⟨bk 1, 0, none⟩)] 110)).alloc (.cells #[.int .i64 0, .int .i64 0] 3) = w3 at *
    generalize w2.heap.size = bo at *
    generalize bl + 1 = B at *
    go_loopw [10, 11] (fun u t wr => ∃ (i : Nat) (rr : Nat → Ro) (la : Nat → Int) (L : List Int), i ≤ l.length ∧ t = .int .i64 i ∧ Inv rr la L i ∧ L.length ≤ i ∧ Ap w wr bk bo bl B rr la u L) (fun _ t _ => l.length - (intOf t).toNat)
    case atStart => exact ⟨0, rr0, _, [], by omega, rfl, Inv.start, by simp, P0.out⟩
    case round =>
      obtain ⟨i, rr, la, L, hil, rfl, hinv, hLi, hap⟩ := hrel
      have IV : Hid (Inv rr la L i) := hinv
      have AP : Hid (Ap w wr bk bo bl B rr la u10 L) := hap
      have HLL : Hid (L.length ≤ i) := hLi
      clear hinv hap P0 hLi
      by_cases hlt : i < l.length
      · obtain ⟨A, o, hp, hc, _, _⟩ := HAT.out i l[i] (List.getElem?_eq_getElem hlt)
        have HX : Hid (-9223372036854775808 ≤ l[i] ∧ l[i] ≤ 9223372036854775807) := ⟨by assumption, by assumption⟩
        generalize l[i] = x at *
        subst hp
        have hc := tk AP.out.bl hc
        have j0 : (0 : Int) ≤ (i : Int) := by omega
        have j1 : (i : Int) < (l.length : Int) := by omega
        by_cases hx : x < 0
        · as_aux_lemma =>
            go_wp2_with fail
            exact ⟨⟨i + 1, rr, la, L, by omega, by go_num, IV.out.mono (by omega), by have := HLL.out; omega, AP.out⟩, by simp [intOf]; omega⟩
        · obtain ⟨c, hc2, hm⟩ : ∃ c : Nat, c < 2 ∧ Int.tmod x 2 = (c : Int) := ⟨(x % 2).toNat, by omega, by rw [tmod2 (by omega)]; omega⟩
          have HC2 : Hid (c < 2) := hc2
          have c0 : (0 : Int) ≤ (c : Int) := by omega
          have c1 : (c : Int) < 2 := by omega
          have hsub : IntKind.i64.wrap (1 - (c : Int)) = ((1 - c : Nat) : Int) := by rw [IntKind.wrap_i64]; omega
          have d0 : (0 : Int) ≤ ((1 - c : Nat) : Int) := by omega
          have d1 : ((1 - c : Nat) : Int) < 2 := by omega
          have hdv : Int.tdiv x 2 = x / 2 := tdiv2 (by omega)
          have hwd : IntKind.i64.wrap (x / 2) = x / 2 := by have := HX.out; rw [IntKind.wrap_i64]; omega
          have hm2 : Int.tmod (x / 2) 2 = x / 2 % 2 := tmod2 (by omega)
          have oc := AP.out.o c hc2
          have od := AP.out.o (1 - c) (by omega)
          have HD2 : Hid (1 - c < 2) := (show 1 - c < 2 by omega)
          clear hc2
          by_cases hq : x / 2 % 2 = 0
          · as_aux_lemma =>
              have hqb : (x / 2 % 2 == 0) = true := beq_iff_eq.2 hq
              clear hq
              obtain ⟨n1, n2, n3, n4, n5⟩ := IV.out.next (by have := HL.out; omega) HC2.out
              have N : Hid ((rr c).nxE = 0 ∧ (rr c).nxV = (rr c).nx ∧ la c < (rr c).nx ∧ (rr c).nx % 2 = (c : Int) ∧ 0 ≤ (rr c).nx) := ⟨n1, n2, n3, n4, n5⟩
              clear n1 n2 n3 n4 n5
              go_wp2_with fail
              refine (ap_next AP.out HC2.out (IV.out.k c HC2.out) s HS.out).mono ?_
              rintro e w4 ⟨rfl, h4⟩
              have P4 : Hid (Ap w w4 bk bo bl B rr la u10 L) := h4
              clear h4 AP hc oc od
              rw [N.out.1, N.out.2.1]
              simp only [terr]
              go_wp2_with fail
              refine (ap_active P4.out HC2.out).mono ?_
              rintro e w5 ⟨rfl, rfl⟩
              cases ha : (rr c).ac
              · as_aux_lemma =>
                  have HA : Hid ((rr c).ac = false) := ha
                  clear ha
                  go_wp2_with fail
                  obtain ⟨hE, hinv', hnot⟩ := IV.out.claim (by have := HL.out; omega) HC2.out HA.out
                  refine (ap_claim P4.out HC2.out (IV.out.k c HC2.out) _ s HS.out).mono ?_
                  rintro e w6 ⟨rfl, h6⟩
                  rw [hE]
                  simp only [terr]
                  obtain ⟨y, hy⟩ : ∃ y, (rr c).nx = y := ⟨_, rfl⟩
                  rw [hy] at h6 hinv' hnot N ⊢
                  obtain ⟨r', hr'⟩ : ∃ r', (rr c).claim y = r' := ⟨_, rfl⟩
                  rw [hr'] at h6 hinv'
                  obtain ⟨p', cap', rfl, hall⟩ := h6.all
                  have P6 : Hid (Ap w w6 bk bo bl B (upd rr c r') la (.slice p' L.length cap') L) := h6
                  have IV' : Hid (Inv (upd rr c r') (upd la c y) (L ++ [y]) (i + 1 : Int)) := hinv'
                  have NOT : Hid (y ∉ L) := hnot
                  have ALL : Hid (∀ (j : Nat) x, L[j]? = some x → ∃ g, p' = some ⟨g, 0, none⟩ ∧ w6.cell? ⟨g, j, none⟩ = some (.int .i64 x)) := hall
                  have lc := P6.out.lac HC2.out
                  have hle : ¬ y ≤ la c := by have := N.out.2.2.1; omega
                  have hme : Int.tmod y 2 = (c : Int) := by rw [tmod2 N.out.2.2.2.2]; exact N.out.2.2.2.1
                  clear h6 hE hinv' hnot hall hy hr' P4 N HA IV
                  go_wp2_with fail
                  clear lc
                  go_loopw [17] (fun t wq => ∃ j : Nat, j ≤ L.length ∧ t = .int .i64 j ∧ wq = w6) (fun t _ => L.length - (intOf t).toNat)
                  case atStart => exact ⟨0, by omega, rfl, rfl⟩
                  case round =>
                    obtain ⟨j, hj, rfl, hw⟩ := hrel
                    subst hw
                    have hj200 : j ≤ 200 := by have := HLL.out; have := HL.out; omega
                    by_cases hjl : j < L.length
                    · as_aux_lemma =>
                        obtain ⟨g, hp', hcell⟩ := ALL.out j L[j] (List.getElem?_eq_getElem hjl)
                        have hne : (L[j] == y) = false := beq_eq_false_iff_ne.2 (fun e => NOT.out (e ▸ List.getElem_mem hjl))
                        generalize L[j] = z at *
                        subst hp'
                        have k0 : (0 : Int) ≤ (j : Int) := by omega
                        have k1 : (j : Int) < (L.length : Int) := by omega
                        go_wp2_with fail
                        exact ⟨⟨j + 1, by omega, by go_num, by trivial⟩, by simp [intOf]; omega⟩
                    · as_aux_lemma =>
                        have k1 : ¬ (j : Int) < (L.length : Int) := by omega
                        go_wp2_with (at_builtin; refine wpList_append_own _ rfl _ _ 49 rfl B 3 i0 (.int .i64 0) 1 8 Tryd.underlying49 hi hz0 hz1 hz2 rfl (by decide) _ _ _ rfl (P6.out.own.alloc _) ⟨wr.heap.size, 0, none⟩ 1 1 [intVp y] rfl rfl ?g1 ?g2 ?g3 ?g4 ?g5 ?_)
                        case g2 => rfl
                        case g3 => have := HLL.out; unfold maxLen; omega
                        case g4 => omega
                        case g5 => have := P6.out.hB; simp; omega
                        intro v' w7 hown' hgrow _
                        have P7 : Hid (Ap w w7 bk bo bl B (upd rr c r') la v' (L ++ [y])) := P6.out.more hown' hgrow
                        clear hown' hgrow
                        have lc := P7.out.lac HC2.out
                        have fc := P7.out.fr c
                        go_wp2_with fail
                        exact ⟨⟨i + 1, upd rr c r', upd la c y, L ++ [y], by omega, by go_num, IV'.out, by have := HLL.out; simp; omega, P7.out.put HC2.out y⟩, by simp [intOf]; omega⟩
              · clear ha
                go_wp2_with fail
                exact ⟨⟨i + 1, rr, la, L, by omega, by go_num, IV.out.mono (by omega), by have := HLL.out; omega, P4.out⟩, by simp [intOf]; omega⟩
          · as_aux_lemma =>
              have hqb : (x / 2 % 2 == 0) = false := beq_eq_false_iff_ne.2 hq
              clear hq
              go_wp2_with fail
              refine (ap_active AP.out HD2.out).mono ?_
              rintro e w5 ⟨rfl, rfl⟩
              cases ha : (rr (1 - c)).ac
              · clear ha
                go_wp2_with fail
                exact ⟨⟨i + 1, rr, la, L, by omega, by go_num, IV.out.mono (by omega), by have := HLL.out; omega, AP.out⟩, by simp [intOf]; omega⟩
              · have HA : Hid ((rr (1 - c)).ac = true) := ha
                clear ha
                go_wp2_with fail
                obtain ⟨hinv', hgt⟩ := IV.out.hear HC2.out HA.out
                refine (ap_epoch AP.out HD2.out).mono ?_
                rintro e w6 ⟨rfl, rfl⟩
                go_wp2_with fail
                refine (ap_hear AP.out HC2.out (rr (1 - c)).ep).mono ?_
                rintro e w7 ⟨rfl, h7⟩
                obtain ⟨r', hr'⟩ : ∃ r', (rr c).hear (rr (1 - c)).ep = r' := ⟨_, rfl⟩
                rw [hr'] at h7 hinv' hgt
                have P7 : Hid (Ap w w7 bk bo bl B (upd rr c r') la u10 L) := h7
                have IV' : Hid (Inv (upd rr c r') la L (i : Int)) := hinv'
                have GT : Hid (r'.ac = true → (rr (1 - c)).ep < r'.ep) := hgt
                have HU : Hid (upd rr c r' c = r' ∧ upd rr c r' (1 - c) = rr (1 - c)) := ⟨upd_same _ _ _, upd_other _ _ (by have := HC2.out; omega)⟩
                clear h7 hinv' hgt hr' AP hc oc od
                go_wp2_with fail
                refine (ap_active P7.out HC2.out).mono ?_
                rintro e w8 ⟨rfl, rfl⟩
                rw [HU.out.1]
                cases ha : r'.ac
                · clear ha
                  go_wp2_with fail
                  exact ⟨⟨i + 1, _, la, L, by omega, by go_num, IV'.out.mono (by omega), by have := HLL.out; omega, P7.out⟩, by simp [intOf]; omega⟩
                · have hgt := GT.out ha
                  clear ha
                  go_wp2_with fail
                  refine (ap_epoch P7.out HC2.out).mono ?_
                  rintro e w9 ⟨rfl, rfl⟩
                  rw [HU.out.1]
                  go_wp2_with fail
                  refine (ap_epoch P7.out HD2.out).mono ?_
                  rintro e w10 ⟨rfl, rfl⟩
                  rw [HU.out.2]
                  have hng : ¬ r'.ep ≤ (rr (1 - c)).ep := by omega
                  go_wp2_with fail
                  exact ⟨⟨i + 1, _, la, L, by omega, by go_num, IV'.out.mono (by omega), by have := HLL.out; omega, P7.out⟩, by simp [intOf]; omega⟩
      · as_aux_lemma =>
          go_wp2_with fail
          refine (ap_active AP.out (c := 0) (by omega)).mono ?_
          rintro e w4 ⟨rfl, rfl⟩
          cases ha0 : (rr 0).ac
          · clear ha0
            go_wp2_with fail
            go_ret
            exact ⟨rfl, AP.out.bl⟩
          · have H0 : Hid ((rr 0).ac = true) := ha0
            clear ha0
            go_wp2_with fail
            refine (ap_active AP.out (c := 1) (by omega)).mono ?_
            rintro e w5 ⟨rfl, rfl⟩
            cases ha1 : (rr 1).ac
            · clear ha1
              go_wp2_with fail
              go_ret
              exact ⟨rfl, AP.out.bl⟩
            · have ONE : Hid (((rr 0).hear (rr 1).ep).ac = false ∨ ((rr 1).hear ((rr 0).hear (rr 1).ep).ep).ac = false) := IV.out.one H0.out ha1
              clear ha1 H0
              go_wp2_with fail
              refine (ap_epoch AP.out (c := 1) (by omega)).mono ?_
              rintro e w6 ⟨rfl, rfl⟩
              go_wp2_with fail
              refine (ap_hear AP.out (c := 0) (by omega) (rr 1).ep).mono ?_
              rintro e w7 ⟨rfl, h7⟩
              obtain ⟨r0, hr0⟩ : ∃ r0, (rr 0).hear (rr 1).ep = r0 := ⟨_, rfl⟩
              rw [hr0] at h7 ONE
              have P7 : Hid (Ap w w7 bk bo bl B (upd rr 0 r0) la u10 L) := h7
              have HU : Hid (upd rr 0 r0 0 = r0 ∧ upd rr 0 r0 1 = rr 1) := ⟨rfl, rfl⟩
              clear h7 hr0 AP
              go_wp2_with fail
              refine (ap_epoch P7.out (c := 0) (by omega)).mono ?_
              rintro e w8 ⟨rfl, rfl⟩
              rw [HU.out.1]
              go_wp2_with fail
              refine (ap_hear P7.out (c := 1) (by omega) r0.ep).mono ?_
              rintro e w9 ⟨rfl, h9⟩
              rw [HU.out.2] at h9 ⊢
              obtain ⟨r1, hr1⟩ : ∃ r1, (rr 1).hear r0.ep = r1 := ⟨_, rfl⟩
              rw [hr1] at h9 ONE
              have P9 : Hid (Ap w w9 bk bo bl B (upd (upd rr 0 r0) 1 r1) la u10 L) := h9
              have HV : Hid (upd (upd rr 0 r0) 1 r1 0 = r0 ∧ upd (upd rr 0 r0) 1 r1 1 = r1) := ⟨rfl, rfl⟩
              clear h9 hr1 P7
              go_wp2_with fail
              refine (ap_active P9.out (c := 0) (by omega)).mono ?_
              rintro e w10 ⟨rfl, rfl⟩
              rw [HV.out.1]
              cases ha0 : r0.ac
              · clear ha0
                go_wp2_with fail
                go_ret
                exact ⟨rfl, P9.out.bl⟩
              · have h1 : r1.ac = false := ONE.out.resolve_left (by rw [ha0]; simp)
                have H1 : Hid (r1.ac = false) := h1
                clear ha0 h1
                go_wp2_with fail
                refine (ap_active P9.out (c := 1) (by omega)).mono ?_
                rintro e w11 ⟨rfl, rfl⟩
                rw [HV.out.2, H1.out]
                go_wp2_with fail
                go_ret
                exact ⟨rfl, P9.out.bl⟩
  · have x4 : (200 : Int) < (l.length : Int) := by omega
    go_enter Tryd.func11, Tryd.ntmps11
    go_wp2_with fail
    refine (stands_any s w HS.out).mono ?_
    rintro e w0 ⟨rfl, hb0⟩
    have B0 : Hid (Below w.heap.size w w0) := hb0
    clear hb0
    go_wp2_with fail
    go_ret
    exact ⟨rfl, B0.out⟩
end Go.Proofs.YtneoflcfhdjcoabDoor
