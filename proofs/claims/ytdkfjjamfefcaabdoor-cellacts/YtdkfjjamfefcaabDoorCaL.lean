/-
  The law CellActs: any puts, any cuts, any boots, on any bytes.
-/
import Derived.Test.YtdkfjjamfefcaabDoorCaS
import Derived.Deep.DeepCutAuto
import Derived.Deep.CutRange
import Derived.Deep.RegionHeld3
import Derived.Deep.QuietTactic
import Derived.BigQuiet
namespace Go.Proofs.YtdkfjjamfefcaabDoor
open Go.RowKit

theorem stB_self (x : ByteArray) : stB x.data.toList = x := by apply ByteArray.ext; simp [stB]
theorem zeros_conv (w : World) (Z : Nat) (h : w.heap[Z]? = some (.cells (Array.replicate 64 (.int .u8 0)) 5 (0, 0))) : (convert 99 9 (.slice (some ⟨Z, 0, none⟩) 64 64)).run Tryd.prog w = .ok (.string (stB zero64)) w := by
  have hcv := run_convert_bytes_arg (P := Tryd.prog) w 99 5 Tryd.underlying99 Tryd.underlying5 Z 0 64 64 (List.replicate 64 0) rfl (fun i hi => by
    rw [Nat.zero_add, cell_of_row w Z i _ _ _ h, Array.getElem?_replicate, if_pos hi, List.getD_eq_getElem?_getD, List.getElem?_replicate, if_pos hi]
    rfl) 9 Tryd.underlying9
  have hst : strOfNums (List.replicate 64 0) = stB zero64 := by decide +kernel
  rw [hst] at hcv
  exact hcv
theorem new0_same : (Value.bool !((stB new0.B).toList == (stB zero64).toList)) = .bool false := by simp [new0]
theorem PtAt.chg2 {w w' : World} {b o m g : Nat} {a : Pt} (h : PtAt w b o a) (hb : Chg2 m g w w') (h1 : b ≠ m) (h2 : b ≠ g) : PtAt w' b o a := ⟨hb.keeps h1 h2 h.c0, hb.keeps h1 h2 h.c1, hb.keeps h1 h2 h.c2, hb.keeps h1 h2 h.c3, hb.keeps h1 h2 h.c4⟩
theorem wpAnyH_mor2 {P : Program} {ops : Array Oper} {Q : Exit → Act → World → Prop} {md : Region.Mode} {S S' : World → Prop} (hS : ∀ w, S' w → S w) : ∀ (fuel : Nat) (listed : Array Bool) (a : Act) (w : World), wpAnyH P md ops Q S' fuel listed a w → wpAnyH P md ops Q S fuel listed a w
  | 0, _, _, _, h => h
  | fuel + 1, _, _, _, h => ⟨h.1, fun i hi => wpOp_mono (fun a' w' h' => ⟨hS w' h'.1, wpAnyH_mor2 hS fuel _ a' w' h'.2⟩) (h.2 i hi)⟩
theorem putE_code (off : Bool) (s : By) (ep li : Int) : (putE off s ep li).1 ≤ 11 := by
  unfold putE
  repeat' split
  all_goals simp
theorem mk64 (w : World) : (Instr.makeSlice 99 (.int .i64 64) (.int .i64 64)).run Tryd.prog w = .ok (.slice (some ⟨w.heap.size, 0, none⟩) 64 64) (w.alloc (.cells (Array.replicate 64 (.int .u8 0)) 5)) := by kernel_rfl
set_option maxRecDepth 100000 in
set_option maxHeartbeats 8000000 in
theorem acts_any (x : ByteArray) (v : Value) (l : List Pt) (se : Nat → Addr) (w : World) (E : Sents w se) (L : PutsIn w v l) (hmx : x.size ≤ maxLen) :
    Calls Tryd.prog 10 #[.string x, v] w fun e w' => e = .returned (.bool true) ∧ Below w.heap.size w w' := by
  obtain ⟨p, cap, rfl, hat⟩ := L
  unfold maxLen at hmx
  have HE : Hid (Sents w se) := E
  have HAT : Hid (∀ (i : Nat) a, l[i]? = some a → ∃ b o, p = some ⟨b, o, none⟩ ∧ PtAt w b (o + i * 5) a ∧ a.cu ≤ 9223372036854775807) := hat
  clear E hat
  by_cases hbig : x.size > 200 ∨ l.length > 60
  · have hcs : (200 : Int) < (x.size : Int) ∨ (¬ (200 : Int) < (x.size : Int) ∧ (60 : Int) < (l.length : Int)) := by omega
    clear hbig
    rcases hcs with g1 | ⟨g1, g2⟩
    all_goals
      go_enter Tryd.func10, Tryd.ntmps10
      go_wp2_with fail
      refine (kept_any se w HE.out).mono ?_
      rintro e w0 ⟨rfl, hb0⟩
      have B0 : Hid (Below w.heap.size w w0) := hb0
      clear hb0
      go_wp2_with fail
      go_ret
      exact ⟨rfl, B0.out⟩
  · have g1 : ¬ (200 : Int) < (x.size : Int) := by omega
    have g2 : ¬ (60 : Int) < (l.length : Int) := by omega
    have HL60 : Hid (l.length ≤ 60) := (show l.length ≤ 60 by omega)
    clear hbig
    go_enter Tryd.func10, Tryd.ntmps10
    go_wp2_with fail
    refine (kept_any se w HE.out).mono ?_
    rintro e w0 ⟨rfl, hb0⟩
    have B0 : Hid (Below w.heap.size w w0) := hb0
    clear hb0
    go_wp2_with fail
    refine (open_nil se w0 (HE.out.below B0.out)).mono ?_
    rintro e w1 ⟨rfl, hb1⟩
    have B1 : Hid (Below w.heap.size w w1) := t2 B0.out hb1
    clear hb1 B0
    go_wp2_with fail
    refine (coded2_any 3 (by omega) 3 se w1 (HE.out.below B1.out)).mono ?_
    rintro e w2 ⟨rfl, hb2⟩
    have B2 : Hid (Below w.heap.size w w2) := t2 B1.out hb2
    have h33 : ((3 : Int) == ((3 : Nat) : Int)) = true := by decide
    rw [h33]
    clear hb2 B1 h33
    go_wp2_with fail
    refine (start_cl w _ B2.out).mono ?_
    rintro e w3 ⟨b, rfl, hy, hb, hbl⟩
    have Y3 : Hid (Byt w3 b new0) := hy
    have H3 : Hid (w.heap.size ≤ b) := hb
    have B3 : Hid (Below w.heap.size w w3) := hbl
    clear hy hb hbl B2
    go_upto_region 8 with fail
    go_cut [53] (fun t wx => t = .bool false ∧ Below w3.heap.size w3 wx)
    case first =>
      have hcv := zeros_conv (w3.alloc (.cells (Array.replicate 64 (.int .u8 0)) 5)).drew w3.heap.size (heap_alloc_new _ _)
      have hS : Byt w3.drew b new0 ∧ Below w3.heap.size w3 w3.drew := ⟨Y3.out.drew, (Below.refl _ _).drew⟩
      have hS2 : Byt (w3.alloc (.cells (Array.replicate 64 (.int .u8 0)) 5)).drew b new0 ∧ Below w3.heap.size w3 (w3.alloc (.cells (Array.replicate 64 (.int .u8 0)) 5)).drew := ⟨(Y3.out.below (aB _ _)).drew, (aB _ _).drew⟩
      have mk := mk64 w3.drew
      refine wp_region_noPanic ?_
      refine wp_region_held_drew (S := (fun w' : World => Byt w' b new0 ∧ Below w3.heap.size w3 w')) (by kernel_rfl) hS (fun _ => ?_)
      refine wpAnyH_take (i := 0) (v := ?_) rfl (by kernel_rfl) (by kernel_rfl) (by kernel_rfl) (fun _ _ _ h => h) (Or.inl ⟨by rfl, ?_⟩) hS ?_
      rotate_left
      · intro w9 hSw; (try dsimp only at hSw); go_simp; try (with_reducible rfl)
      simp only [Act.put, List.getElem_toArray, List.getElem_cons_zero, List.setIfInBounds_toArray, List.set_cons_zero, List.set_cons_succ]
      refine wpAnyH_take (i := 1) (v := ?_) rfl (by kernel_rfl) (by kernel_rfl) (by kernel_rfl) (fun _ _ _ h => h) (Or.inl ⟨by rfl, ?_⟩) hS ?_
      rotate_left
      · intro w9 hSw; (try dsimp only at hSw); go_simp; try (with_reducible rfl)
      simp only [Act.put, List.getElem_toArray, List.getElem_cons_succ, List.getElem_cons_zero, List.setIfInBounds_toArray, List.set_cons_zero, List.set_cons_succ]
      refine wpAnyH_take (i := 2) (v := ?_) rfl (by kernel_rfl) (by kernel_rfl) (by kernel_rfl) (fun _ _ _ h => h) (Or.inl ⟨by rfl, ?_⟩) hS ?_
      rotate_left
      · intro w9 hSw; (try dsimp only at hSw); go_simp; try (with_reducible rfl)
      simp only [Act.put, List.getElem_toArray, List.getElem_cons_succ, List.getElem_cons_zero, List.setIfInBounds_toArray, List.set_cons_zero, List.set_cons_succ]
      refine wpAnyH_take (i := 3) (v := ?_) rfl (by kernel_rfl) (by kernel_rfl) (by kernel_rfl) (fun _ _ _ h => h) (Or.inl ⟨by rfl, ?_⟩) hS ?_
      rotate_left
      · intro w9 hSw; (try dsimp only at hSw); go_simp; try (with_reducible rfl)
      simp only [Act.put, List.getElem_toArray, List.getElem_cons_succ, List.getElem_cons_zero, List.setIfInBounds_toArray, List.set_cons_zero, List.set_cons_succ]
      refine wpAnyH_ready (rs := [4, 5]) (by kernel_rfl) (by simp) ?_
      refine AllReadyH.cons (o := _) rfl (fun K hK => ?_) (AllReadyH.cons (o := _) rfl (fun K hK => ?_) AllReadyH.nil)
      · go_simp
        refine (all_any b new0 w3.drew (And.left hS)).mono ?_
        rintro e z ⟨rfl, hz⟩
        obtain rfl := hz.symm
        clear hz
        go_wp2_with fail
        refine hK.out _ _ hS (fun _ => ?_)
        clear hK K
        try simp only [Act.put, List.setIfInBounds_toArray, List.set_cons_zero, List.set_cons_succ]
        refine wpAnyH_ready (rs := [5]) (by kernel_rfl) (by simp) ?_
        refine AllReadyH.cons (o := _) rfl (fun K hK => ?_) AllReadyH.nil
        go_simp
        refine hK.out _ _ hS2 (fun _ => ?_)
        clear hK K
        try simp only [Act.put, List.setIfInBounds_toArray, List.set_cons_zero, List.set_cons_succ]
        refine wpAnyH_ready (rs := [6]) (by kernel_rfl) (by simp) ?_
        refine AllReadyH.cons (o := _) rfl (fun K hK => ?_) AllReadyH.nil
        go_simp
        refine hK.out _ _ hS2 (fun _ => ?_)
        clear hK K
        try simp only [Act.put, List.setIfInBounds_toArray, List.set_cons_zero, List.set_cons_succ]
        refine wpAnyH_take (i := 7) (v := ?_) rfl (by kernel_rfl) (by kernel_rfl) (by kernel_rfl) (fun _ _ _ h => h) (Or.inl ⟨by rfl, ?_⟩) hS2 ?_
        rotate_left
        · intro w9 hSw; (try dsimp only at hSw); go_simp; try (with_reducible rfl)
        simp only [Act.put, List.getElem_toArray, List.getElem_cons_succ, List.getElem_cons_zero, List.setIfInBounds_toArray, List.set_cons_zero, List.set_cons_succ]
        refine wpAnyH_take (i := 8) (v := ?_) rfl (by kernel_rfl) (by kernel_rfl) (by kernel_rfl) (fun _ _ _ h => h) (Or.inl ⟨by rfl, ?_⟩) hS2 ?_
        rotate_left
        · intro w9 hSw; (try dsimp only at hSw); go_simp; try (with_reducible rfl)
        simp only [Act.put, List.getElem_toArray, List.getElem_cons_succ, List.getElem_cons_zero, List.setIfInBounds_toArray, List.set_cons_zero, List.set_cons_succ]
        refine wpAnyH_done (by kernel_rfl) ?_ _
        refine NoPanic.normal ?_
        have B4 : Hid (Below w3.heap.size w3 _) := And.right hS2
        go_wp2_with fail
        go_meet
        case rel => exact ⟨new0_same, B4.out⟩
      · go_simp
        refine hK.out _ _ hS2 (fun _ => ?_)
        clear hK K
        try simp only [Act.put, List.setIfInBounds_toArray, List.set_cons_zero, List.set_cons_succ]
        refine wpAnyH_ready (rs := [4, 6]) (by kernel_rfl) (by simp) ?_
        refine AllReadyH.cons (o := _) rfl (fun K hK => ?_) (AllReadyH.cons (o := _) rfl (fun K hK => ?_) AllReadyH.nil)
        · go_simp
          refine (all_any b new0 _ (And.left hS2)).mono ?_
          rintro e z ⟨rfl, hz⟩
          obtain rfl := hz.symm
          clear hz
          go_wp2_with fail
          refine hK.out _ _ hS2 (fun _ => ?_)
          clear hK K
          try simp only [Act.put, List.setIfInBounds_toArray, List.set_cons_zero, List.set_cons_succ]
          refine wpAnyH_ready (rs := [6]) (by kernel_rfl) (by simp) ?_
          refine AllReadyH.cons (o := _) rfl (fun K hK => ?_) AllReadyH.nil
          go_simp
          refine hK.out _ _ hS2 (fun _ => ?_)
          clear hK K
          try simp only [Act.put, List.setIfInBounds_toArray, List.set_cons_zero, List.set_cons_succ]
          refine wpAnyH_take (i := 7) (v := ?_) rfl (by kernel_rfl) (by kernel_rfl) (by kernel_rfl) (fun _ _ _ h => h) (Or.inl ⟨by rfl, ?_⟩) hS2 ?_
          rotate_left
          · intro w9 hSw; (try dsimp only at hSw); go_simp; try (with_reducible rfl)
          simp only [Act.put, List.getElem_toArray, List.getElem_cons_succ, List.getElem_cons_zero, List.setIfInBounds_toArray, List.set_cons_zero, List.set_cons_succ]
          refine wpAnyH_take (i := 8) (v := ?_) rfl (by kernel_rfl) (by kernel_rfl) (by kernel_rfl) (fun _ _ _ h => h) (Or.inl ⟨by rfl, ?_⟩) hS2 ?_
          rotate_left
          · intro w9 hSw; (try dsimp only at hSw); go_simp; try (with_reducible rfl)
          simp only [Act.put, List.getElem_toArray, List.getElem_cons_succ, List.getElem_cons_zero, List.setIfInBounds_toArray, List.set_cons_zero, List.set_cons_succ]
          refine wpAnyH_done (by kernel_rfl) ?_ _
          refine NoPanic.normal ?_
          have B4 : Hid (Below w3.heap.size w3 _) := And.right hS2
          go_wp2_with fail
          go_meet
          case rel => exact ⟨new0_same, B4.out⟩
        · go_simp
          refine hK.out _ _ hS2 (fun _ => ?_)
          clear hK K
          try simp only [Act.put, List.setIfInBounds_toArray, List.set_cons_zero, List.set_cons_succ]
          refine wpAnyH_ready (rs := [4]) (by kernel_rfl) (by simp) ?_
          refine AllReadyH.cons (o := _) rfl (fun K hK => ?_) AllReadyH.nil
          go_simp
          refine (all_any b new0 _ (And.left hS2)).mono ?_
          rintro e z ⟨rfl, hz⟩
          obtain rfl := hz.symm
          clear hz
          go_wp2_with fail
          refine hK.out _ _ hS2 (fun _ => ?_)
          clear hK K
          try simp only [Act.put, List.setIfInBounds_toArray, List.set_cons_zero, List.set_cons_succ]
          refine wpAnyH_take (i := 7) (v := ?_) rfl (by kernel_rfl) (by kernel_rfl) (by kernel_rfl) (fun _ _ _ h => h) (Or.inl ⟨by rfl, ?_⟩) hS2 ?_
          rotate_left
          · intro w9 hSw; (try dsimp only at hSw); go_simp; try (with_reducible rfl)
          simp only [Act.put, List.getElem_toArray, List.getElem_cons_succ, List.getElem_cons_zero, List.setIfInBounds_toArray, List.set_cons_zero, List.set_cons_succ]
          refine wpAnyH_take (i := 8) (v := ?_) rfl (by kernel_rfl) (by kernel_rfl) (by kernel_rfl) (fun _ _ _ h => h) (Or.inl ⟨by rfl, ?_⟩) hS2 ?_
          rotate_left
          · intro w9 hSw; (try dsimp only at hSw); go_simp; try (with_reducible rfl)
          simp only [Act.put, List.getElem_toArray, List.getElem_cons_succ, List.getElem_cons_zero, List.setIfInBounds_toArray, List.set_cons_zero, List.set_cons_succ]
          refine wpAnyH_done (by kernel_rfl) ?_ _
          refine NoPanic.normal ?_
          have B4 : Hid (Below w3.heap.size w3 _) := And.right hS2
          go_wp2_with fail
          go_meet
          case rel => exact ⟨new0_same, B4.out⟩
    case rest =>
      obtain ⟨rfl, hb4⟩ := hcut
      have Y4 : Hid (Byt wc b new0) := Y3.out.below hb4
      have B4 : Hid (Below w.heap.size w wc) := t2 B3.out hb4
      clear hb4 Y3 B3
      by_cases h64 : x.size = 64
      · have hn64 : ((x.size : Int) != 64) = false := by rw [h64]; rfl
        obtain ⟨L, hL⟩ : ∃ L, L = x.data.toList := ⟨_, rfl⟩
        have HX : Hid (x = stB L) := by show _ = _; rw [hL, stB_self]
        have HL : Hid (L.length = 64) := by
          show _ = _
          rw [hL]; simpa using h64
        have LO : Hid (Calls Tryd.prog 63 #[.pointer (some ⟨b, 0, none⟩), .string x] wc fun e w' => e = .returned .nilIface ∧ Byt w' b ⟨L, true, false, 0⟩ ∧ Chg b wc w') := by
          rw [HX.out]; exact lay_ok b new0 L wc Y4.out HL.out
        clear hL h64
        go_wp2_with fail
        refine LO.out.mono ?_
        rintro e w5 ⟨rfl, hy5, hx5⟩
        have Y5 : Hid (Byt w5 b ⟨L, true, false, 0⟩) := hy5
        have B5 : Hid (Below w.heap.size w w5) := Chg.below B4.out hx5 H3.out
        clear hy5 hx5 Y4 B4 LO
        go_wp2_with fail
        refine (all_any b ⟨L, true, false, 0⟩ w5 Y5.out).mono ?_
        rintro e w6 ⟨rfl, hw6⟩
        obtain rfl := hw6.symm
        have hsame : ((stB L).toList == x.toList) = true := by rw [HX.out]; simp
        clear hw6
        go_wp2_with fail
        obtain ⟨w7, hw7⟩ : ∃ w7, w7 = w5.alloc (.cells #[.string x, .bool false, .int .i64 0, .bool false] 103) := ⟨_, rfl⟩
        have N7 : Hid (RBy w7 w5.heap.size ⟨L, true, false, 0⟩ 0) := by rw [hw7, HX.out]; exact heap_alloc_new w5 _
        have Y7 : Hid (Byt w7 b ⟨L, true, false, 0⟩) := by rw [hw7]; exact Y5.out.below (aB _ _)
        have B7 : Hid (Below w.heap.size w w7) := by rw [hw7]; exact t2 B5.out (aB _ _)
        have H7 : Hid (b < w5.heap.size ∧ w.heap.size ≤ w5.heap.size) := ⟨Y5.out.lt, B5.out.size⟩
        rw [← hw7]
        clear hw7 Y5 B5 hsame
        generalize w5.heap.size = n at *
        refine (open_ok b ⟨L, true, false, 0⟩ w7 Y7.out rfl).mono ?_
        rintro e w8 ⟨⟨rfl, a1⟩, a2⟩
        have C8 : Hid (Cl w w8 b w7.heap.size ⟨L, true, false, 0⟩ false) := ⟨Y7.out.below a2, a1, by have := Y7.out.lt; omega, H3.out, B7.out.size, t2 B7.out a2, Nat.zero_le _⟩
        have N8 : Hid (RBy w8 n ⟨L, true, false, 0⟩ 0) := N7.out.below a2
        have H8 : Hid (n < w7.heap.size) := N7.out.lt
        clear a1 a2 N7 Y7 B7
        generalize w7.heap.size = c0 at *
        go_wp2_with fail
        refine (ropen_any n ⟨L, true, false, 0⟩ 0 w8 N8.out HL.out).mono ?_
        rintro e w9 ⟨⟨rfl, a1⟩, a2⟩
        have hc8 := C8.out.e.lt
        have hb8 := C8.out.y.lt
        have hn8 := N8.out.lt
        have C9 : Hid (Ca w w9 b c0 n w8.heap.size ⟨L, true, false, 0⟩ false ⟨L, true, false, 0⟩ (newest L) false 0) :=
          ⟨C8.out.below a2, ⟨⟨0, N8.out.below a2, fun e => (by cases e), Int.le_refl _, by decide⟩, a1, by omega, HL.out, Chg2.refl _ _ _⟩, by have := H7.out.1; omega, by have := H8.out; omega, by omega, by omega, H7.out.2, C8.out.bl.size⟩
        clear a1 a2 hc8 hb8 hn8 C8 N8 H8 H7 H3
        generalize w8.heap.size = m0 at *
        go_wp2_with fail
        go_loopw [10, 12, 13] (fun s10 s12 s13 wr => ∃ (i c m : Nat) (s : By) (off : Bool), i ≤ l.length ∧ s13 = .int .i64 i ∧ s10 = .pointer (some ⟨c, 0, none⟩) ∧ s12 = .pointer (some ⟨m, 0, none⟩) ∧ Ca w wr b c n m s off s (newest s.B) off (-(20 * (i : Int)))) (fun _ _ t _ => l.length - (intOf t).toNat)
        case atStart => exact ⟨0, c0, m0, ⟨L, true, false, 0⟩, false, by omega, rfl, rfl, rfl, by simpa using C9.out⟩
        case round =>
          obtain ⟨i, c, m, s, off, hi, rfl, rfl, rfl, hca⟩ := hrel
          have CR : Hid (Ca w wr b c n m s off s (newest s.B) off (-(20 * (i : Int)))) := hca
          clear hca C9
          by_cases hlt : i < l.length
          · obtain ⟨A, o, hp, hpt, hcu⟩ := HAT.out i l[i] (List.getElem?_eq_getElem hlt)
            generalize l[i] = a at *
            subst hp
            have PT := hpt.below CR.out.p.bl
            have a0 := PT.c0
            have a1 := PT.c1
            have a2 := PT.c2
            have a3 := PT.c3
            have a4 := PT.c4
            have HCU : Hid (a.cu ≤ 9223372036854775807) := hcu
            clear hpt hcu PT
            have i0 : (0 : Int) ≤ (i : Int) := by omega
            have i1 : (i : Int) < (l.length : Int) := by omega
            obtain ⟨y, hy⟩ : ∃ y, newest s.B = y := ⟨_, rfl⟩
            rw [hy] at CR
            have HY : Hid (newest s.B = y) := hy
            clear hy
            obtain ⟨lo, hlo⟩ : ∃ lo : Int, lo = -(20 * (i : Int)) := ⟨_, rfl⟩
            rw [← hlo] at CR
            have HLO : Hid (lo = -(20 * (i : Int)) ∧ -1200 ≤ lo ∧ lo ≤ 0) := ⟨hlo, by have := HL60.out; omega, by omega⟩
            clear hlo
            go_upto_region 23 with fail
            have P1 : Hid (PtAt (wr.alloc (.cells #[.int .i64 a.ep, .int .i64 a.li, .int .i64 a.cu, .bool a.bo, .bool a.of'] 95)) wr.heap.size 0 a) := ptAt_new wr a _
            have C1 : Hid (Ca w (wr.alloc (.cells #[.int .i64 a.ep, .int .i64 a.li, .int .i64 a.cu, .bool a.bo, .bool a.of'] 95)) b c n m s off s y off lo) := CR.out.below (aB _ _)
            have hqb : wr.heap.size ≠ b := by have := CR.out.p.y.lt; omega
            have hqc : wr.heap.size ≠ c := by have := CR.out.p.e.lt; omega
            have hqn : wr.heap.size ≠ n := by obtain ⟨_, r, _⟩ := CR.out.r.r; have := r.lt; omega
            have hqm : wr.heap.size ≠ m := by have := CR.out.r.c.lt; omega
            have HQL : Hid (wr.heap.size < (wr.alloc (.cells #[.int .i64 a.ep, .int .i64 a.li, .int .i64 a.cu, .bool a.bo, .bool a.of'] 95)).heap.size) := by show _ < _; simp
            generalize wr.alloc (.cells #[.int .i64 a.ep, .int .i64 a.li, .int .i64 a.cu, .bool a.bo, .bool a.of'] 95) = w3' at *
            generalize wr.heap.size = Q at *
            clear a0 a1 a2 a3 a4 CR
            have q4 := P1.out.c4
            go_upto_if 98 with fail
            go_cut [] (fun wx => ∃ s1 : By, Ca w wx b c n m s1 off s1 y off lo ∧ newest s1.B = y ∧ PtAt wx Q 0 a ∧ Q < wx.heap.size)
            case first =>
              cases hof : a.of'
              · rw [hof] at q4
                go_wp2_with fail
                go_meet
                case rel => exact ⟨s, C1.out, HY.out, P1.out, HQL.out⟩
              · rw [hof] at q4
                go_wp2_with fail
                refine (ca_off C1.out).mono ?_
                rintro e x1 ⟨rfl, hc1, hk1⟩
                have C2 : Hid (Ca w x1 b c n m s.off off s y off lo) := hc1
                have P2 : Hid (PtAt x1 Q 0 a) := P1.out.chg2 hk1 hqb hqc
                have Q2 : Hid (Q < x1.heap.size) := Nat.lt_of_lt_of_le HQL.out hk1.size
                clear hc1 hk1 q4
                obtain ⟨lvx, hrx, _⟩ := C2.out.r.r
                have n1 := hrx.c1
                have nf := hrx.fr 1
                clear hrx
                go_wp2_with fail
                have C3 : Hid (Ca w (x1.setCell ⟨n, 1, none⟩ (.bool true)) b c n m s.off off s.off y off lo) := C2.out.roff
                have P3 : Hid (PtAt (x1.setCell ⟨n, 1, none⟩ (.bool true)) Q 0 a) := P2.out.chg2 ((Chg2.refl n m x1).on (Chg.set n _ _ _) (Or.inl rfl)) hqn hqm
                have Q3 : Hid (Q < (x1.setCell ⟨n, 1, none⟩ (.bool true)).heap.size) := by show _ < _; simpa using Q2.out
                generalize x1.setCell ⟨n, 1, none⟩ (.bool true) = x2 at *
                clear n1 nf C2 P2 Q2
                refine (open_off b s.off se x2 C3.out.p.y (HE.out.below C3.out.p.bl) rfl).mono ?_
                rintro e x3 ⟨rfl, hb3⟩
                have C4 : Hid (Ca w x3 b c n m s.off off s.off y off lo) := C3.out.below hb3
                have P4 : Hid (PtAt x3 Q 0 a) := P3.out.below hb3
                have Q4 : Hid (Q < x3.heap.size) := Nat.lt_of_lt_of_le Q3.out hb3.size
                clear hb3 C3 P3 Q3
                go_wp2_with fail
                refine (coded2_any 7 (by omega) 7 se x3 (HE.out.below C4.out.p.bl)).mono ?_
                rintro e x4 ⟨rfl, hb4⟩
                have C5 : Hid (Ca w x4 b c n m s.off off s.off y off lo) := C4.out.below hb4
                have P5 : Hid (PtAt x4 Q 0 a) := P4.out.below hb4
                have Q5 : Hid (Q < x4.heap.size) := Nat.lt_of_lt_of_le Q4.out hb4.size
                have h77 : ((7 : Int) == ((7 : Nat) : Int)) = true := by decide
                rw [h77]
                clear hb4 C4 P4 Q4 h77
                go_wp2_with fail
                go_meet
                case rel => exact ⟨s.off, C5.out, HY.out, P5.out, Q5.out⟩
            case rest =>
              obtain ⟨s1, hc1, hy1, hp1, hq1⟩ := hcut
              have C2 : Hid (Ca w wc b c n m s1 off s1 y off lo) := hc1
              have Y2 : Hid (newest s1.B = y) := hy1
              have P2 : Hid (PtAt wc Q 0 a) := hp1
              have Q2 : Hid (Q < wc.heap.size) := hq1
              clear hc1 hy1 hp1 hq1 C1 P1 HQL HY q4
              have q3 := P2.out.c3
              go_upto_if 117 with fail
              go_cut [10, 12] (fun s10 s12 wx => ∃ (c' m' : Nat) (s2 : By) (off2 : Bool), s10 = .pointer (some ⟨c', 0, none⟩) ∧ s12 = .pointer (some ⟨m', 0, none⟩) ∧ Ca w wx b c' n m' s2 off2 s2 y off2 lo ∧ newest s2.B = y ∧ PtAt wx Q 0 a ∧ Q ≠ c' ∧ Q ≠ m')
              case first =>
                cases hbo : a.bo
                · rw [hbo] at q3
                  go_wp2_with fail
                  go_meet
                  case rel => exact ⟨c, m, s1, off, rfl, rfl, C2.out, Y2.out, P2.out, hqc, hqm⟩
                · rw [hbo] at q3
                  go_wp2_with fail
                  refine (ca_on C2.out).mono ?_
                  rintro e x1 ⟨rfl, hc1, hk1⟩
                  have C3 : Hid (Ca w x1 b c n m s1.turnOn off s1 y off lo) := hc1
                  have P3 : Hid (PtAt x1 Q 0 a) := P2.out.chg2 hk1 hqb hqc
                  have Q3 : Hid (Q < x1.heap.size) := Nat.lt_of_lt_of_le Q2.out hk1.size
                  clear hc1 hk1 q3
                  go_wp2_with fail
                  refine (ca_ron C3.out).mono ?_
                  rintro e x2 ⟨rfl, hc2, hk2⟩
                  have C4 : Hid (Ca w x2 b c n m s1.turnOn off s1.turnOn y off lo) := hc2
                  have P4 : Hid (PtAt x2 Q 0 a) := P3.out.chg2 hk2 hqn hqm
                  have Q4 : Hid (Q < x2.heap.size) := Nat.lt_of_lt_of_le Q3.out hk2.size
                  clear hc2 hk2 C3 P3 Q3
                  go_wp2_with fail
                  refine (ca_open C4.out rfl).mono ?_
                  rintro e x3 ⟨c', rfl, hc3, hb3, hl3⟩
                  have C5 : Hid (Ca w x3 b c' n m s1.turnOn false s1.turnOn y off lo) := hc3
                  have P5 : Hid (PtAt x3 Q 0 a) := P4.out.below hb3
                  have Q5 : Hid (Q < x3.heap.size ∧ Q ≠ c') := ⟨Nat.lt_of_lt_of_le Q4.out hb3.size, by have := Q4.out; omega⟩
                  clear hc3 hb3 hl3 C4 P4 Q4
                  go_wp2_with fail
                  refine (ca_ropen C5.out).mono ?_
                  rintro e x4 ⟨m', rfl, hc4, hb4, hl4⟩
                  have C6 : Hid (Ca w x4 b c' n m' s1.turnOn false s1.turnOn y false lo) := by
                    have e : newest s1.turnOn.B = y := Y2.out
                    rw [e] at hc4
                    exact hc4
                  have P6 : Hid (PtAt x4 Q 0 a) := P5.out.below hb4
                  have Q6 : Hid (Q ≠ c' ∧ Q ≠ m') := ⟨Q5.out.2, by have := Q5.out.1; omega⟩
                  clear hc4 hb4 hl4 C5 P5 Q5
                  go_wp2_with fail
                  go_meet
                  case rel => exact ⟨c', m', s1.turnOn, false, rfl, rfl, C6.out, Y2.out, P6.out, Q6.out.1, Q6.out.2⟩
              case rest =>
                obtain ⟨c', m', s2, off2, rfl, rfl, hc2, hy2, hp2, hqc', hqm'⟩ := hcut
                have C3 : Hid (Ca w wc b c' n m' s2 off2 s2 y off2 lo) := hc2
                have Y3 : Hid (newest s2.B = y) := hy2
                have P3 : Hid (PtAt wc Q 0 a) := hp2
                clear hc2 hy2 hp2 C2 P2 Q2 Y2 q3
                have q2 := P3.out.c2
                go_upto_region 37 with fail
                go_cut [143] (fun t wx => ∃ q : Bool, t = .bool q ∧ wx = wc)
                case first =>
                  by_cases hcu : 0 ≤ a.cu
                  · go_wp2_with fail
                    go_meet
                    case rel => exact ⟨_, rfl, rfl⟩
                  · have hd : decide (0 ≤ a.cu) = false := decide_eq_false hcu
                    go_wp2_with fail
                    all_goals
                      go_meet
                      case rel => exact ⟨_, rfl, rfl⟩
                case rest =>
                  obtain ⟨q, rfl, rfl⟩ := hcut
                  go_upto_if 143 with fail
                  go_cut [] (fun wx => ∃ s3 : By, Ca w wx b c' n m' s3 off2 s3 y off2 lo ∧ newest s3.B = y ∧ PtAt wx Q 0 a)
                  case first =>
                    cases q
                    · go_wp2_with fail
                      go_meet
                      case rel => exact ⟨s2, C3.out, Y3.out, P3.out⟩
                    · have hS : wc.drew.cell? ⟨Q, 2, none⟩ = some (.int .i64 a.cu) := P3.out.c2
                      have HCE : Hid (cutE s2 a.cu ≤ 11) := by show _ ≤ _; unfold cutE; (repeat' split) <;> omega
                      go_wp2_with fail
                      go_region_held3 (fun w' => w'.cell? ⟨Q, 2, none⟩ = some (.int .i64 a.cu)) (first | assumption | exact PX3.out.c2 | exact PX2.out.c2 | exact PX1.out.c2)
                        (first
                          | (go_at_call 55; refine (ca_cut (C3.out.below (Below.refl _ _).drew) a.cu HCU.out se HE.out).mono ?_; rintro e x1 ⟨rfl, hc1, hk1⟩; have CX1 : Hid (Ca w x1 b c' n m' (s2.setCut a.cu) off2 s2 y off2 lo) := hc1; have PX1 : Hid (PtAt x1 Q 0 a) := (P3.out.below (Below.refl _ _).drew).chg2 hk1 hqb hqc'; clear hc1 hk1)
                          | (go_at_call 67; refine (ca_rcut CX1.out a.cu HCU.out HLO.out.2.2).mono ?_; rintro e x2 ⟨rfl, hc2, hk2⟩; have CX2 : Hid (Ca w x2 b c' n m' (s2.setCut a.cu) off2 (s2.setCut a.cu) y off2 lo) := hc2; have PX2 : Hid (PtAt x2 Q 0 a) := PX1.out.chg2 hk2 hqn hqm'; clear hc2 hk2)
                          | (go_at_call 59; refine (coded2_any (cutE s2 a.cu) HCE.out _ se _ (HE.out.below CX2.out.p.bl)).mono ?_; rintro e x3 ⟨rfl, hb3⟩; have CX3 : Hid (Ca w x3 b c' n m' (s2.setCut a.cu) off2 (s2.setCut a.cu) y off2 lo) := CX2.out.below hb3; have PX3 : Hid (PtAt x3 Q 0 a) := PX2.out.below hb3; clear hb3))
                      have hcc : (((cutE s2 a.cu : Nat) : Int) == ((cutE s2 a.cu : Nat) : Int)) = true := by simp
                      go_wp2_with fail
                      go_meet
                      case rel => exact ⟨s2.setCut a.cu, CX3.out, by rw [setCut_B']; exact Y3.out, PX3.out⟩
                  case rest =>
                    obtain ⟨s3, hc3, hy3, hp3⟩ := hcut
                    have C4 : Hid (Ca w wc b c' n m' s3 off2 s3 y off2 lo) := hc3
                    have Y4 : Hid (newest s3.B = y) := hy3
                    have P4 : Hid (PtAt wc Q 0 a) := hp3
                    clear hc3 hy3 hp3 C3 P3 Y3 q2
                    go_upto_region 40 with fail
                    obtain ⟨R, hR⟩ : ∃ R, R = putE off2 s3 a.ep a.li := ⟨_, rfl⟩
                    have HR : Hid (R = putE off2 s3 a.ep a.li) := hR
                    have HR11 : Hid (R.1 ≤ 11) := by show _ ≤ _; rw [hR]; exact putE_code _ _ _ _
                    clear hR
                    go_cut [185] (fun t wx => t = .bool false ∧ Ca w wx b c' n m' R.2.1 R.2.2 R.2.1 (newest R.2.1.B) R.2.2 (lo - 20))
                    case first =>
                      have hS : wc.drew.cell? ⟨Q, 0, none⟩ = some (.int .i64 a.ep) ∧ wc.drew.cell? ⟨Q, 1, none⟩ = some (.int .i64 a.li) := ⟨P4.out.c0, P4.out.c1⟩
                      have hcc : (((R.1 : Nat) : Int) == ((R.1 : Nat) : Int)) = true := by simp
                      refine wp_region_noPanic ?_
                      refine wp_region_held_drew (S := (fun w' : World => w'.cell? ⟨Q, 0, none⟩ = some (.int .i64 a.ep) ∧ w'.cell? ⟨Q, 1, none⟩ = some (.int .i64 a.li))) (by kernel_rfl) hS (fun _ => ?_)
                      refine wpAnyH_take (i := 0) (v := ?_) rfl (by kernel_rfl) (by kernel_rfl) (by kernel_rfl) (fun _ _ _ h => h) (Or.inl ⟨by rfl, ?_⟩) hS ?_
                      rotate_left
                      · intro w9 hSw; (try dsimp only at hSw); go_simp; try (with_reducible rfl)
                      simp only [Act.put, List.getElem_toArray, List.getElem_cons_zero, List.setIfInBounds_toArray, List.set_cons_zero, List.set_cons_succ]
                      refine wpAnyH_take (i := 1) (v := ?_) rfl (by kernel_rfl) (by kernel_rfl) (by kernel_rfl) (fun _ _ _ h => h) (Or.inl ⟨by rfl, ?_⟩) hS ?_
                      rotate_left
                      · intro w9 hSw; (try dsimp only at hSw); go_simp; try (with_reducible rfl)
                      simp only [Act.put, List.getElem_toArray, List.getElem_cons_succ, List.getElem_cons_zero, List.setIfInBounds_toArray, List.set_cons_zero, List.set_cons_succ]
                      refine wpAnyH_take (i := 2) (v := ?_) rfl (by kernel_rfl) (by kernel_rfl) (by kernel_rfl) (fun _ _ _ h => h) (Or.inl ⟨by rfl, ?_⟩) hS ?_
                      rotate_left
                      · intro w9 hSw; (try dsimp only at hSw); go_simp; try (with_reducible rfl)
                      simp only [Act.put, List.getElem_toArray, List.getElem_cons_succ, List.getElem_cons_zero, List.setIfInBounds_toArray, List.set_cons_zero, List.set_cons_succ]
                      refine wpAnyH_take (i := 3) (v := ?_) rfl (by kernel_rfl) (by kernel_rfl) (by kernel_rfl) (fun _ _ _ h => h) (Or.inl ⟨by rfl, ?_⟩) hS ?_
                      rotate_left
                      · intro w9 hSw; (try dsimp only at hSw); go_simp; try (with_reducible rfl)
                      simp only [Act.put, List.getElem_toArray, List.getElem_cons_succ, List.getElem_cons_zero, List.setIfInBounds_toArray, List.set_cons_zero, List.set_cons_succ]
                      refine wpAnyH_take (i := 4) (v := ?_) rfl (by kernel_rfl) (by kernel_rfl) (by kernel_rfl) (fun _ _ _ h => h) (Or.inl ⟨by rfl, ?_⟩) hS ?_
                      rotate_left
                      · intro w9 hSw; (try dsimp only at hSw); go_simp; try (with_reducible rfl)
                      simp only [Act.put, List.getElem_toArray, List.getElem_cons_succ, List.getElem_cons_zero, List.setIfInBounds_toArray, List.set_cons_zero, List.set_cons_succ]
                      refine wpAnyH_take (i := 6) (v := ?_) rfl (by kernel_rfl) (by kernel_rfl) (by kernel_rfl) (fun _ _ _ h => h) (Or.inl ⟨by rfl, ?_⟩) hS ?_
                      rotate_left
                      · intro w9 hSw; (try dsimp only at hSw); go_simp; try (with_reducible rfl)
                      simp only [Act.put, List.getElem_toArray, List.getElem_cons_succ, List.getElem_cons_zero, List.setIfInBounds_toArray, List.set_cons_zero, List.set_cons_succ]
                      refine wpAnyH_take (i := 7) (v := ?_) rfl (by kernel_rfl) (by kernel_rfl) (by kernel_rfl) (fun _ _ _ h => h) (Or.inl ⟨by rfl, ?_⟩) hS ?_
                      rotate_left
                      · intro w9 hSw; (try dsimp only at hSw); go_simp; try (with_reducible rfl)
                      simp only [Act.put, List.getElem_toArray, List.getElem_cons_succ, List.getElem_cons_zero, List.setIfInBounds_toArray, List.set_cons_zero, List.set_cons_succ]
                      refine wpAnyH_take (i := 8) (v := ?_) rfl (by kernel_rfl) (by kernel_rfl) (by kernel_rfl) (fun _ _ _ h => h) (Or.inl ⟨by rfl, ?_⟩) hS ?_
                      rotate_left
                      · intro w9 hSw; (try dsimp only at hSw); go_simp; try (with_reducible rfl)
                      simp only [Act.put, List.getElem_toArray, List.getElem_cons_succ, List.getElem_cons_zero, List.setIfInBounds_toArray, List.set_cons_zero, List.set_cons_succ]
                      refine wpAnyH_take (i := 9) (v := ?_) rfl (by kernel_rfl) (by kernel_rfl) (by kernel_rfl) (fun _ _ _ h => h) (Or.inl ⟨by rfl, ?_⟩) hS ?_
                      rotate_left
                      · intro w9 hSw; (try dsimp only at hSw); go_simp; try (with_reducible rfl)
                      simp only [Act.put, List.getElem_toArray, List.getElem_cons_succ, List.getElem_cons_zero, List.setIfInBounds_toArray, List.set_cons_zero, List.set_cons_succ]
                      refine wpAnyH_take (i := 10) (v := ?_) rfl (by kernel_rfl) (by kernel_rfl) (by kernel_rfl) (fun _ _ _ h => h) (Or.inl ⟨by rfl, ?_⟩) hS ?_
                      rotate_left
                      · intro w9 hSw; (try dsimp only at hSw); go_simp; try (with_reducible rfl)
                      simp only [Act.put, List.getElem_toArray, List.getElem_cons_succ, List.getElem_cons_zero, List.setIfInBounds_toArray, List.set_cons_zero, List.set_cons_succ]
                      refine wpAnyH_ready (rs := [5]) (by kernel_rfl) (by simp) ?_
                      refine AllReadyH.cons (o := _) rfl (fun K hK => ?_) AllReadyH.nil
                      go_simp
                      refine (ca_put (C4.out.below (Below.refl _ _).drew) a.ep a.li se HE.out).mono ?_
                      rintro e x1 ⟨rfl, hc1, hk1⟩
                      go_wp2_with fail
                      have CX1 : Hid (Ca w x1 b c' n m' R.2.1 R.2.2 s3 y off2 lo) := by rw [HR.out]; exact hc1
                      have PX1 : Hid (PtAt x1 Q 0 a) := (P4.out.below (Below.refl _ _).drew).chg2 hk1 hqb hqc'
                      have s1 : x1.cell? ⟨Q, 0, none⟩ = some (.int .i64 a.ep) ∧ x1.cell? ⟨Q, 1, none⟩ = some (.int .i64 a.li) := ⟨PX1.out.c0, PX1.out.c1⟩
                      clear hc1 hk1
                      rw [← HR.out]
                      refine hK.out _ _ s1 (fun _ => ?_)
                      clear hK K
                      try simp only [Act.put, List.setIfInBounds_toArray, List.set_cons_zero, List.set_cons_succ]
                      refine wpAnyH_ready (rs := [11]) (by kernel_rfl) (by simp) ?_
                      refine AllReadyH.cons (o := _) rfl (fun K hK => ?_) AllReadyH.nil
                      go_simp
                      refine (ca_rput CX1.out Y4.out a.ep a.li (by have := HLO.out.2.1; omega)).mono ?_
                      rintro e x2 ⟨rfl, hc2, hk2⟩
                      go_wp2_with fail
                      have CX2 : Hid (Ca w x2 b c' n m' R.2.1 R.2.2 R.2.1 (newest R.2.1.B) R.2.2 (lo - 20)) := by rw [HR.out] at *; exact hc2
                      have PX2 : Hid (PtAt x2 Q 0 a) := PX1.out.chg2 hk2 hqn hqm'
                      have s2' : x2.cell? ⟨Q, 0, none⟩ = some (.int .i64 a.ep) ∧ x2.cell? ⟨Q, 1, none⟩ = some (.int .i64 a.li) := ⟨PX2.out.c0, PX2.out.c1⟩
                      clear hc2 hk2
                      rw [← HR.out]
                      refine hK.out _ _ s2' (fun _ => ?_)
                      clear hK K
                      try simp only [Act.put, List.setIfInBounds_toArray, List.set_cons_zero, List.set_cons_succ]
                      refine wpAnyH_ready (rs := [12]) (by kernel_rfl) (by simp) ?_
                      refine AllReadyH.cons (o := _) rfl (fun K hK => ?_) AllReadyH.nil
                      go_simp
                      refine (coded2_any R.1 HR11.out _ se x2 (HE.out.below CX2.out.p.bl)).mono ?_
                      rintro e x3 ⟨rfl, hb3⟩
                      go_wp2_with fail
                      have CX3 : Hid (Ca w x3 b c' n m' R.2.1 R.2.2 R.2.1 (newest R.2.1.B) R.2.2 (lo - 20)) := CX2.out.below hb3
                      have PX3 : Hid (PtAt x3 Q 0 a) := PX2.out.below hb3
                      have s3' : x3.cell? ⟨Q, 0, none⟩ = some (.int .i64 a.ep) ∧ x3.cell? ⟨Q, 1, none⟩ = some (.int .i64 a.li) := ⟨PX3.out.c0, PX3.out.c1⟩
                      clear hb3
                      try rw [hcc]
                      refine hK.out _ _ s3' (fun _ => ?_)
                      clear hK K
                      try simp only [Act.put, List.setIfInBounds_toArray, List.set_cons_zero, List.set_cons_succ]
                      refine wpAnyH_take (i := 13) (v := ?_) rfl (by kernel_rfl) (by kernel_rfl) (by kernel_rfl) (fun _ _ _ h => h) (Or.inl ⟨by rfl, ?_⟩) s3' ?_
                      rotate_left
                      · intro w9 hSw; (try dsimp only at hSw); go_simp; try (with_reducible rfl)
                      simp only [Act.put, List.getElem_toArray, List.getElem_cons_succ, List.getElem_cons_zero, List.setIfInBounds_toArray, List.set_cons_zero, List.set_cons_succ]
                      refine wpAnyH_take (i := 14) (v := ?_) rfl (by kernel_rfl) (by kernel_rfl) (by kernel_rfl) (fun _ _ _ h => h) (Or.inl ⟨by rfl, ?_⟩) s3' ?_
                      rotate_left
                      · intro w9 hSw; (try dsimp only at hSw); go_simp; try (with_reducible rfl)
                      simp only [Act.put, List.getElem_toArray, List.getElem_cons_succ, List.getElem_cons_zero, List.setIfInBounds_toArray, List.set_cons_zero, List.set_cons_succ]
                      obtain ⟨z, hz⟩ : ∃ z, newest R.2.1.B = z := ⟨_, rfl⟩
                      have HZ : Hid (newest R.2.1.B = z) := hz
                      rw [hz] at CX3
                      clear hz
                      have m2 := CX3.out.r.c.c2
                      have m3 := CX3.out.r.c.c3
                      have s4' : (x3.cell? ⟨Q, 0, none⟩ = some (.int .i64 a.ep) ∧ x3.cell? ⟨Q, 1, none⟩ = some (.int .i64 a.li)) ∧ x3.cell? ⟨m', 2, none⟩ = some (.int .i64 z.e) ∧ x3.cell? ⟨m', 3, none⟩ = some (.int .i64 z.l) := ⟨s3', m2, m3⟩
                      clear m2 m3
                      refine wpAnyH_mor2 (S' := (fun w' : World => (w'.cell? ⟨Q, 0, none⟩ = some (.int .i64 a.ep) ∧ w'.cell? ⟨Q, 1, none⟩ = some (.int .i64 a.li)) ∧ w'.cell? ⟨m', 2, none⟩ = some (.int .i64 z.e) ∧ w'.cell? ⟨m', 3, none⟩ = some (.int .i64 z.l))) (fun _ h => h.1) _ _ _ _ ?_
                      refine wpAnyH_take (i := 15) (v := ?_) rfl (by kernel_rfl) (by kernel_rfl) (by kernel_rfl) (fun _ _ _ h => h) (Or.inl ⟨by rfl, ?_⟩) s4' ?_
                      rotate_left
                      · intro w9 hSw; (try dsimp only at hSw); go_simp; try (with_reducible rfl)
                      simp only [Act.put, List.getElem_toArray, List.getElem_cons_succ, List.getElem_cons_zero, List.setIfInBounds_toArray, List.set_cons_zero, List.set_cons_succ]
                      refine wpAnyH_take (i := 17) (v := ?_) rfl (by kernel_rfl) (by kernel_rfl) (by kernel_rfl) (fun _ _ _ h => h) (Or.inl ⟨by rfl, ?_⟩) s4' ?_
                      rotate_left
                      · intro w9 hSw; (try dsimp only at hSw); go_simp; try (with_reducible rfl)
                      simp only [Act.put, List.getElem_toArray, List.getElem_cons_succ, List.getElem_cons_zero, List.setIfInBounds_toArray, List.set_cons_zero, List.set_cons_succ]
                      refine wpAnyH_take (i := 18) (v := ?_) rfl (by kernel_rfl) (by kernel_rfl) (by kernel_rfl) (fun _ _ _ h => h) (Or.inl ⟨by rfl, ?_⟩) s4' ?_
                      rotate_left
                      · intro w9 hSw; (try dsimp only at hSw); go_simp; try (with_reducible rfl)
                      simp only [Act.put, List.getElem_toArray, List.getElem_cons_succ, List.getElem_cons_zero, List.setIfInBounds_toArray, List.set_cons_zero, List.set_cons_succ]
                      refine wpAnyH_take (i := 19) (v := ?_) rfl (by kernel_rfl) (by kernel_rfl) (by kernel_rfl) (fun _ _ _ h => h) (Or.inl ⟨by rfl, ?_⟩) s4' ?_
                      rotate_left
                      · intro w9 hSw; (try dsimp only at hSw); go_simp; try (with_reducible rfl)
                      simp only [Act.put, List.getElem_toArray, List.getElem_cons_succ, List.getElem_cons_zero, List.setIfInBounds_toArray, List.set_cons_zero, List.set_cons_succ]
                      refine wpAnyH_take (i := 20) (v := ?_) rfl (by kernel_rfl) (by kernel_rfl) (by kernel_rfl) (fun _ _ _ h => h) (Or.inl ⟨by rfl, ?_⟩) s4' ?_
                      rotate_left
                      · intro w9 hSw; (try dsimp only at hSw); go_simp; try (with_reducible rfl)
                      simp only [Act.put, List.getElem_toArray, List.getElem_cons_succ, List.getElem_cons_zero, List.setIfInBounds_toArray, List.set_cons_zero, List.set_cons_succ]
                      refine wpAnyH_ready (rs := [16]) (by kernel_rfl) (by simp) ?_
                      refine AllReadyH.cons (o := _) rfl (fun K hK => ?_) AllReadyH.nil
                      go_simp
                      refine (epoch_any c' b R.2.2 R.2.1 x3 CX3.out.p.e CX3.out.p.y).mono ?_
                      rintro e x4 ⟨rfl, hb4⟩
                      go_wp2_with fail
                      have CX4 : Hid (Ca w x4 b c' n m' R.2.1 R.2.2 R.2.1 z R.2.2 (lo - 20)) := CX3.out.below hb4
                      have PX4 : Hid (PtAt x4 Q 0 a) := PX3.out.below hb4
                      have s5' : (x4.cell? ⟨Q, 0, none⟩ = some (.int .i64 a.ep) ∧ x4.cell? ⟨Q, 1, none⟩ = some (.int .i64 a.li)) ∧ x4.cell? ⟨m', 2, none⟩ = some (.int .i64 z.e) ∧ x4.cell? ⟨m', 3, none⟩ = some (.int .i64 z.l) := ⟨⟨PX4.out.c0, PX4.out.c1⟩, CX4.out.r.c.c2, CX4.out.r.c.c3⟩
                      clear hb4
                      try rw [HZ.out]
                      refine hK.out _ _ s5' (fun _ => ?_)
                      clear hK K
                      try simp only [Act.put, List.setIfInBounds_toArray, List.set_cons_zero, List.set_cons_succ]
                      refine wpAnyH_take (i := 21) (v := ?_) rfl (by kernel_rfl) (by kernel_rfl) (by kernel_rfl) (fun _ _ _ h => h) (Or.inl ⟨by rfl, ?_⟩) s5' ?_
                      rotate_left
                      · intro w9 hSw; (try dsimp only at hSw); go_simp; try (with_reducible rfl)
                      simp only [Act.put, List.getElem_toArray, List.getElem_cons_succ, List.getElem_cons_zero, List.setIfInBounds_toArray, List.set_cons_zero, List.set_cons_succ]
                      refine wpAnyH_take (i := 22) (v := ?_) rfl (by kernel_rfl) (by kernel_rfl) (by kernel_rfl) (fun _ _ _ h => h) (Or.inl ⟨by rfl, ?_⟩) s5' ?_
                      rotate_left
                      · intro w9 hSw; (try dsimp only at hSw); go_simp; try (with_reducible rfl)
                      simp only [Act.put, List.getElem_toArray, List.getElem_cons_succ, List.getElem_cons_zero, List.setIfInBounds_toArray, List.set_cons_zero, List.set_cons_succ]
                      refine wpAnyH_take (i := 23) (v := ?_) rfl (by kernel_rfl) (by kernel_rfl) (by kernel_rfl) (fun _ _ _ h => h) (Or.inl ⟨by rfl, ?_⟩) s5' ?_
                      rotate_left
                      · intro w9 hSw; (try dsimp only at hSw); go_simp; try (with_reducible rfl)
                      simp only [Act.put, List.getElem_toArray, List.getElem_cons_succ, List.getElem_cons_zero, List.setIfInBounds_toArray, List.set_cons_zero, List.set_cons_succ]
                      refine wpAnyH_take (i := 24) (v := ?_) rfl (by kernel_rfl) (by kernel_rfl) (by kernel_rfl) (fun _ _ _ h => h) (Or.inl ⟨by rfl, ?_⟩) s5' ?_
                      rotate_left
                      · intro w9 hSw; (try dsimp only at hSw); go_simp; try (with_reducible rfl)
                      simp only [Act.put, List.getElem_toArray, List.getElem_cons_succ, List.getElem_cons_zero, List.setIfInBounds_toArray, List.set_cons_zero, List.set_cons_succ]
                      refine wpAnyH_take (i := 26) (v := ?_) rfl (by kernel_rfl) (by kernel_rfl) (by kernel_rfl) (fun _ _ _ h => h) (Or.inl ⟨by rfl, ?_⟩) s5' ?_
                      rotate_left
                      · intro w9 hSw; (try dsimp only at hSw); go_simp; try (with_reducible rfl)
                      simp only [Act.put, List.getElem_toArray, List.getElem_cons_succ, List.getElem_cons_zero, List.setIfInBounds_toArray, List.set_cons_zero, List.set_cons_succ]
                      refine wpAnyH_take (i := 27) (v := ?_) rfl (by kernel_rfl) (by kernel_rfl) (by kernel_rfl) (fun _ _ _ h => h) (Or.inl ⟨by rfl, ?_⟩) s5' ?_
                      rotate_left
                      · intro w9 hSw; (try dsimp only at hSw); go_simp; try (with_reducible rfl)
                      simp only [Act.put, List.getElem_toArray, List.getElem_cons_succ, List.getElem_cons_zero, List.setIfInBounds_toArray, List.set_cons_zero, List.set_cons_succ]
                      refine wpAnyH_take (i := 28) (v := ?_) rfl (by kernel_rfl) (by kernel_rfl) (by kernel_rfl) (fun _ _ _ h => h) (Or.inl ⟨by rfl, ?_⟩) s5' ?_
                      rotate_left
                      · intro w9 hSw; (try dsimp only at hSw); go_simp; try (with_reducible rfl)
                      simp only [Act.put, List.getElem_toArray, List.getElem_cons_succ, List.getElem_cons_zero, List.setIfInBounds_toArray, List.set_cons_zero, List.set_cons_succ]
                      refine wpAnyH_take (i := 29) (v := ?_) rfl (by kernel_rfl) (by kernel_rfl) (by kernel_rfl) (fun _ _ _ h => h) (Or.inl ⟨by rfl, ?_⟩) s5' ?_
                      rotate_left
                      · intro w9 hSw; (try dsimp only at hSw); go_simp; try (with_reducible rfl)
                      simp only [Act.put, List.getElem_toArray, List.getElem_cons_succ, List.getElem_cons_zero, List.setIfInBounds_toArray, List.set_cons_zero, List.set_cons_succ]
                      refine wpAnyH_ready (rs := [25]) (by kernel_rfl) (by simp) ?_
                      refine AllReadyH.cons (o := _) rfl (fun K hK => ?_) AllReadyH.nil
                      go_simp
                      refine (life_any c' b R.2.2 R.2.1 x4 CX4.out.p.e CX4.out.p.y).mono ?_
                      rintro e x5 ⟨rfl, hb5⟩
                      go_wp2_with fail
                      have CX5 : Hid (Ca w x5 b c' n m' R.2.1 R.2.2 R.2.1 z R.2.2 (lo - 20)) := CX4.out.below hb5
                      have PX5 : Hid (PtAt x5 Q 0 a) := PX4.out.below hb5
                      have s6' : (x5.cell? ⟨Q, 0, none⟩ = some (.int .i64 a.ep) ∧ x5.cell? ⟨Q, 1, none⟩ = some (.int .i64 a.li)) ∧ x5.cell? ⟨m', 2, none⟩ = some (.int .i64 z.e) ∧ x5.cell? ⟨m', 3, none⟩ = some (.int .i64 z.l) := ⟨⟨PX5.out.c0, PX5.out.c1⟩, CX5.out.r.c.c2, CX5.out.r.c.c3⟩
                      clear hb5
                      try rw [HZ.out]
                      refine hK.out _ _ s6' (fun _ => ?_)
                      clear hK K
                      try simp only [Act.put, List.setIfInBounds_toArray, List.set_cons_zero, List.set_cons_succ]
                      refine wpAnyH_take (i := 30) (v := ?_) rfl (by kernel_rfl) (by kernel_rfl) (by kernel_rfl) (fun _ _ _ h => h) (Or.inl ⟨by rfl, ?_⟩) s6' ?_
                      rotate_left
                      · intro w9 hSw; (try dsimp only at hSw); go_simp; try (with_reducible rfl)
                      simp only [Act.put, List.getElem_toArray, List.getElem_cons_succ, List.getElem_cons_zero, List.setIfInBounds_toArray, List.set_cons_zero, List.set_cons_succ]
                      refine wpAnyH_take (i := 31) (v := ?_) rfl (by kernel_rfl) (by kernel_rfl) (by kernel_rfl) (fun _ _ _ h => h) (Or.inl ⟨by rfl, ?_⟩) s6' ?_
                      rotate_left
                      · intro w9 hSw; (try dsimp only at hSw); go_simp; try (with_reducible rfl)
                      simp only [Act.put, List.getElem_toArray, List.getElem_cons_succ, List.getElem_cons_zero, List.setIfInBounds_toArray, List.set_cons_zero, List.set_cons_succ]
                      refine wpAnyH_done (by kernel_rfl) ?_ _
                      refine NoPanic.normal ?_
                      go_wp2_with fail
                      go_meet
                      case rel => exact ⟨by simp, by rw [HZ.out]; exact CX5.out⟩
                    case rest =>
                      obtain ⟨rfl, hc5⟩ := hcut
                      have C5 : Hid (Ca w wc b c' n m' R.2.1 R.2.2 R.2.1 (newest R.2.1.B) R.2.2 (lo - 20)) := hc5
                      clear hc5 C4 P4 Y4
                      obtain ⟨lvx, hrx, _⟩ := C5.out.r.r
                      have n0 := hrx.c0
                      have n1 := hrx.c1
                      clear hrx
                      have HBQ : Hid (∀ k, Byt (wc.drewN k) b R.2.1) := fun k => C5.out.p.y
                      obtain ⟨B, hBe⟩ : ∃ B, stB R.2.1.B = B := ⟨_, rfl⟩
                      obtain ⟨on, hone⟩ : ∃ on, R.2.1.on = on := ⟨_, rfl⟩
                      have AL : Hid (∀ k, Calls Tryd.prog 62 #[.pointer (some ⟨b, 0, none⟩)] (wc.drewN k) fun e w' => e = .returned (.string B) ∧ w' = wc.drewN k) := fun k => by
                        rw [← hBe]; exact all_any b R.2.1 _ (HBQ.out k)
                      have PW : Hid (∀ k, Calls Tryd.prog 57 #[.pointer (some ⟨b, 0, none⟩)] (wc.drewN k) fun e w' => e = .returned (.bool on) ∧ w' = wc.drewN k) := fun k => by
                        rw [← hone]; exact power_any b R.2.1 _ (HBQ.out k)
                      rw [hBe] at n0
                      rw [hone] at n1
                      clear hBe hone
                      have hcmp : (B.toList == B.toList) = true := by simp
                      have hon2 : (on == !on) = false := by cases on <;> rfl
                      go_wp2_with fail
                      go_quiet ((first | (go_at_call 62; exact Calls.quiet_of_same (AL.out _)) | (go_at_call 57; exact Calls.quiet_of_same (PW.out _))))
                      go_wp2_with fail
                      refine ⟨⟨i + 1, c', m', R.2.1, R.2.2, by omega, by go_num, rfl, rfl, ?_⟩, by simp [intOf]; omega⟩
                      have e1 : lo - 20 = -(20 * ((i + 1 : Nat) : Int)) := by have := HLO.out.1; omega
                      rw [← e1]
                      exact C5.out.below ⟨rfl, rfl, rfl, Nat.le_refl _, fun _ _ => rfl⟩
          · go_wp2_with fail
            go_ret
            exact ⟨rfl, CR.out.p.bl⟩
      · have hn64 : ((x.size : Int) != 64) = true := by rw [bne_iff_ne]; omega
        go_wp2_with fail
        refine (lay_bad b x se wc (HE.out.below B4.out) h64).mono ?_
        rintro e w5 ⟨rfl, hw5⟩
        obtain rfl := hw5.symm
        go_wp2_with fail
        refine (coded2_any 3 (by omega) 3 se wc (HE.out.below B4.out)).mono ?_
        rintro e w6 ⟨rfl, hb6⟩
        have B6 : Hid (Below w.heap.size w w6) := t2 B4.out hb6
        have h33 : ((3 : Int) == ((3 : Nat) : Int)) = true := by decide
        rw [h33]
        clear hb6 h33
        go_wp2_with fail
        go_ret
        exact ⟨rfl, B6.out⟩
end Go.Proofs.YtdkfjjamfefcaabDoor
