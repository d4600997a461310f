/-
  Package teller's Next.
-/
import Derived.Test.YtifkbafdjkgnoaaDoorTeE
namespace Go.Proofs.YtifkbafdjkgnoaaDoor
open Go.RowKit Go.Maps

theorem ToldM.put {w : World} {M n : Nat} {D : To} (h : ToldM w M n D) {s : Nat} {v : Int} (hs : s < 32) (h0 : 0 ≤ v) (h1 : v ≤ 1000000) (hn : n ≤ 1000000) :
    ∃ w', (Instr.mapUpdate 63 (.map (some M)) (.int .i64 s) (.int .i64 v)).run Tryd.prog w = .ok () w' ∧ ToldM w' M (n + 1) (fun k => if k = s then v else D k) ∧ Chg M w w' := by
  obtain ⟨d, e1, e2⟩ := h
  have him := e1.isMap
  obtain ⟨w', hrun, ho, hg⟩ := e1.update ikey Tryd.underlying63 (by unfold maxLen; omega) (keyOf_int_mk Tryd.underlying3 (wfI (x := s) (by omega) (by omega))) (plainElem_int Tryd.underlying3 (wfI (x := v) (by omega) h1))
  refine ⟨w', hrun, ⟨_, ho, fun k hk => ?_⟩, chg_grown hg⟩
  by_cases e : k = s
  · subst e
    rw [atKey_put_same him (by simp [WideAt.IsKeyLit])]
    simp only [if_true]
  · rw [atKey_put_other (by intro h; injection h with _ h2; omega)]
    simp only [if_neg e]
    exact e2 k hk
theorem toldD_next {T : Tb} {D : To} {L : List Nat} {j s : Nat} (h : L[j]? = some s) : toldD T D (L.take (j + 1)) = fun k => if k = s then (T s).ve else toldD T D (L.take j) k := by
  funext k
  unfold toldD
  rw [List.take_add_one, h]
  by_cases e : k = s
  · subst e; simp
  · by_cases hm : k ∈ L.take j <;> simp [hm, e]
theorem toldD_zero (T : Tb) (D : To) (L : List Nat) : toldD T D (L.take 0) = D := by
  funext k; simp [toldD]
theorem Chg2.fresh {m g z : Nat} {w v v' : World} (h : Chg2 m g w v) (k : Chg2 m z v v') (hz : w.heap.size ≤ z) : Chg2 m g w v' :=
  ⟨k.os.trans h.os, k.tape.trans h.tape, k.output.trans h.output, Nat.le_trans h.size k.size, fun i hi h1 h2 => (k.block i (Nat.lt_of_lt_of_le hi h.size) h1 (by omega)).trans (h.block i hi h1 h2)⟩
theorem Tel.put {w w' : World} {X b M n : Nat} {D : To} {c s : Nat} {v : Int} (h : Tel w X b M n D c) (hm : ToldM w' M (n + 1) (fun k => if k = s then v else D k)) (hc : Chg M w w') : Tel w' X b M (n + 1) (fun k => if k = s then v else D k) c :=
  ⟨hc.keeps h.ne h.c0, hc.keeps h.ne h.c1, hc.keeps h.ne h.c2, (frozen_of_block (hc.block X (tlt h.c0) h.ne)).trans h.f2, hm, h.ne, h.lt⟩
theorem fill_len (X b M n c Z k : Nat) (low : Int) (T : Tb) (D : To) (B : List Nat) (w : World) (hk : k = B.length) (H : Tel w X b M n D c) (t : Tab w b low T) (R : RowsB w Z T B) (hX : X ≠ Z) (hM : M ≠ Z) (hbZ : b ≠ Z) (hB : B = (newsL T D).take 8 := by rfl) :
    Calls Tryd.prog 34 #[.pointer (some ⟨X, 0, none⟩), .slice (some ⟨Z, 0, none⟩) k 8] w fun e w' => ∃ L c', Nx T D c L c' ∧ e = .returned (.slice (some ⟨Z, 0, none⟩) 8 8) ∧ RowsB w' Z T L ∧ Tel w' X b M n D c' ∧ Chg2 X Z w w' := by
  subst hk
  refine (fill_any X b M n c Z low T D B w H t R hX hM hbZ).mono ?_
  rintro e w' ⟨j, hf, rfl, h1, h2, h3⟩
  have h8 := hf.len (by rw [hB]; exact take8 _)
  subst hB
  exact ⟨_, _, ⟨j, hf, rfl, rfl⟩, by rw [h8], h1, h2, h3⟩
/-- how Next stands behind j cells that were put down. -/
structure Nj (w wr : World) (X b M n Z : Nat) (T : Tb) (D : To) (L : List Nat) (c' j : Nat) : Prop where
  h : Tel wr X b M (n + j) (toldD T D (L.take j)) c'
  r : RowsB wr Z T L
  g : Chg2 X M w wr
theorem Nj.below {w wr wr' : World} {X b M n Z : Nat} {T : Tb} {D : To} {L : List Nat} {c' j : Nat} (f : Nj w wr X b M n Z T D L c' j) (hb : Below wr.heap.size wr wr') : Nj w wr' X b M n Z T D L c' j :=
  ⟨f.h.below hb, f.r.below hb, f.g.then hb⟩
theorem make8 (w : World) (T : Tb) : ∃ w', (Instr.makeSlice 43 (.int .i64 0) (.int .i64 8)).run Tryd.prog w = .ok (.slice (some ⟨w.heap.size, 0, none⟩) 0 8) w' ∧ RowsB w' w.heap.size T [] ∧ Below w.heap.size w w' := by
  obtain ⟨i0, hi, hz0, hz1, hz2⟩ := info_parts Tryd.infoCell
  have h := run_makeSlice (P := Tryd.prog) w 43 59 i0 _ Tryd.underlying43 hi hz0 .i64 .i64 0 8 (by omega) (by omega) (by rw [hz1]; decide) (by rw [hz2]; decide) (by omega)
  refine ⟨_, h, ⟨_, heap_alloc_new _ _, ?_, fun j s hj => by simp at hj⟩, aB _ _⟩
  rw [size_madeCells, hz1]
  rfl
theorem slCs_take {T : Tb} {L : List Nat} {k q : Nat} {u : Value} (h : (slCs T (L.take k))[q]? = some u) : (slCs T L)[q]? = some u := by
  have e : slCs T L = slCs T (L.take k) ++ slCs T (L.drop k) := by rw [← slCs_app, List.take_append_drop]
  rw [e, List.getElem?_append_left (List.getElem?_eq_some_iff.1 h).1]
  exact h
/-- the first eight of what is new, as they lie. -/
theorem NewsV.rows {w : World} {base : Nat} {T : Tb} {L : List Nat} {v : Value} (h : NewsV w base T L v) : (L = [] ∧ v = .slice none 0 0) ∨ ∃ g cap, v = .slice (some ⟨g, 0, none⟩) L.length cap ∧ L.length ≤ cap ∧ g < w.heap.size ∧ ∀ j u, (slCs T (L.take 8))[j]? = some u → w.cell? (Addr.add ⟨g, 0, none⟩ j) = some u := by
  obtain ⟨h1, h2⟩ := h
  rcases h2 with ⟨rfl, h0⟩ | ⟨g, cap, cur, rfl, _, hh, hc, _, _, ht⟩
  · exact .inl ⟨List.length_eq_zero_iff.1 h0, rfl⟩
  · refine .inr ⟨g, cap, rfl, hc, (Array.getElem?_eq_some_iff.1 hh).1, fun j u hu => ?_⟩
    have h3 := slCs_take hu
    have h4 := (List.getElem?_eq_some_iff.1 h3).1
    rw [tadd, Nat.zero_add, cell_of_row w g _ _ _ _ hh]
    rw [← ht, List.getElem?_take] at h3
    split at h3
    · rw [Array.getElem?_toList] at h3; exact h3
    · cases h3
set_option maxRecDepth 100000 in
set_option maxHeartbeats 4000000 in
theorem tnext_any (X b M n c m : Nat) (low : Int) (T : Tb) (D : To) (w : World) (H : Tel w X b M n D c) (t : Tab w b low T) (hv : Vers T m) (hm : m ≤ 1000000) (hn : n ≤ 100000) :
    Calls Tryd.prog 13 #[.pointer (some ⟨X, 0, none⟩)] w fun e w' => ∃ Z L c', Nx T D c L c' ∧ e = .returned (.slice (some ⟨Z, 0, none⟩) 8 8) ∧ w.heap.size ≤ Z ∧ RowsB w' Z T L ∧ Tel w' X b M (n + 8) (toldD T D L) c' ∧ Chg2 X M w w' := by
  have HH : Hid (Tel w X b M n D c) := H
  have HT : Hid (Tab w b low T) := t
  have HV : Hid (Vers T m) := hv
  clear H t hv
  go_enter Tryd.func13, Tryd.ntmps13
  go_wp2_with fail
  refine (tnews_any X b M n c low T D w HH.out HT.out).mono ?_
  rintro e w1 ⟨⟨v, rfl, hv⟩, hb1⟩
  have B1 : Hid (Below w.heap.size w w1) := hb1
  have hl := newsL_len T D
  have HL : Hid (((newsL T D).take 8).length = min 8 (newsL T D).length) := by show _ = _; rw [List.length_take]
  obtain ⟨w2, hmk, hr2, hb2⟩ := make8 w1 T
  have R2 : Hid (RowsB w2 w1.heap.size T []) := hr2
  have B2 : Hid (Below w.heap.size w w2) := t2 hb1 hb2
  have HZ : Hid (w.heap.size ≤ w1.heap.size) := hb1.size
  have hnv := hv.rows
  clear hv
  rcases hnv with ⟨h0, rfl⟩ | ⟨g, cap, rfl, hcap, hg, hrow⟩
  · have HE : Hid ((newsL T D).take 8 = []) := by show _ = _; rw [h0]; rfl
    have R3 : Hid (RowsB w2 w1.heap.size T ((newsL T D).take 8)) := by rw [HE.out]; exact R2.out
    have HK : Hid (0 = ((newsL T D).take 8).length) := by rw [HE.out]; rfl
    obtain ⟨w3, hw3⟩ : ∃ w3, w3 = w2 := ⟨_, rfl⟩
    have B3 : Hid (Below w.heap.size w w3) := by rw [hw3]; exact B2.out
    rw [← hw3] at hmk R3
    clear hw3 h0 R2 B2 B1 hb1 hb2 hr2
    go_wp2_with fail
    refine (fill_len X b M n c w1.heap.size _ low T D ((newsL T D).take 8) w3 HK.out (HH.out.below B3.out) (HT.out.below B3.out) R3.out (by have h := tlt HH.out.c0; have := HZ.out; simp only at h; omega) (by have := HH.out.m.lt; have := HZ.out; omega) (by have := HT.out.lt; have := HZ.out; omega)).mono ?_
    rintro e w4 ⟨L, c', hx, rfl, hr4, hh4, hg4⟩
    have HX : Hid (Nx T D c L c') := hx
    have N2 : Hid (Nj w w4 X b M n w1.heap.size T D L c' 0) := ⟨by rw [toldD_zero]; exact hh4, hr4, (Chg2.of B3.out).fresh hg4 HZ.out⟩
    clear hx hr4 hh4 hg4 R3 B3 HL HK hmk
    obtain ⟨Z, hZ⟩ : ∃ Z, Z = w1.heap.size := ⟨_, rfl⟩
    rw [← hZ] at HZ N2 ⊢
    clear hZ
    go_wp2_with fail
    go_loopw [22] (fun t wr => ∃ j : Nat, j ≤ 8 ∧ t = .int .i64 j ∧ Nj w wr X b M n Z T D L c' j) (fun t _ => 8 - (intOf t).toNat)
    case atStart => exact ⟨0, by omega, rfl, N2.out⟩
    case round =>
      obtain ⟨j, hj, rfl, hnj⟩ := hrel
      have NJ : Hid (Nj w wr X b M n Z T D L c' j) := hnj
      clear hnj N2
      by_cases hlt : j < 8
      · have i0 : (0 : Int) ≤ (j : Int) := by omega
        have i1 : (j : Int) < 8 := by omega
        have hL8 := HX.out.len
        obtain ⟨s, hs⟩ : ∃ s, L[j]? = some s := ⟨_, List.getElem?_eq_getElem (by omega)⟩
        have HS : Hid (L[j]? = some s) := hs
        have hs32 : s < 32 := HX.out.lt s (List.mem_of_getElem? hs)
        have a0 := NJ.out.r.at' (k := 0) hs (by omega)
        have a1 := NJ.out.r.at' (k := 1) hs (by omega)
        have a2 := NJ.out.r.at' (k := 2) hs (by omega)
        have a3 := NJ.out.r.at' (k := 3) hs (by omega)
        have a4 := NJ.out.r.at' (k := 4) hs (by omega)
        have a5 := NJ.out.r.at' (k := 5) hs (by omega)
        have a6 := NJ.out.r.at' (k := 6) hs (by omega)
        have a7 := NJ.out.r.at' (k := 7) hs (by omega)
        have a8 := NJ.out.r.at' (k := 8) hs (by omega)
        have a9 := NJ.out.r.at' (k := 9) hs (by omega)
        simp only [Ce.get, Nat.add_zero] at a0 a1 a2 a3 a4 a5 a6 a7 a8 a9
        clear hs hL8
        go_wp2_with fail
        clear a0 a1 a2 a3 a4 a5 a6 a7 a8 a9
        have A1 : Hid (TcB10 (wr.alloc (.cells #[.int .i64 s, .int .i64 (T s).ve, .int .i64 (T s).pr, .int .i64 (T s).ia, .int .i64 (T s).ip, .int .i64 (T s).fa, .int .i64 (T s).fp, .int .i64 (T s).po, .int .i64 (T s).st, .int .i64 (T s).un] 59)) wr.heap.size T s) := tcB10_new _ _ _
        have N1 : Hid (Nj w (wr.alloc (.cells #[.int .i64 s, .int .i64 (T s).ve, .int .i64 (T s).pr, .int .i64 (T s).ia, .int .i64 (T s).ip, .int .i64 (T s).fa, .int .i64 (T s).fp, .int .i64 (T s).po, .int .i64 (T s).st, .int .i64 (T s).un] 59)) X b M n Z T D L c' j) := NJ.out.below (aB _ _)
        generalize wr.alloc (.cells #[.int .i64 s, .int .i64 (T s).ve, .int .i64 (T s).pr, .int .i64 (T s).ia, .int .i64 (T s).ip, .int .i64 (T s).fa, .int .i64 (T s).fp, .int .i64 (T s).po, .int .i64 (T s).st, .int .i64 (T s).un] 59) = W0 at *
        generalize wr.heap.size = V at *
        have hve := HV.out s hs32
        obtain ⟨w5, hup, hm5, hc5⟩ := (N1.out.h.below (Below.refl _ _).drew).m.put (s := s) (v := (T s).ve) hs32 hve.1 (by omega) (by omega)
        have N5 : Hid (Nj w w5 X b M n Z T D L c' (j + 1)) := by
          have N1d := N1.out.below (Below.refl _ _).drew
          have hzm : Z ≠ M := by have := HH.out.m.lt; have := HZ.out; omega
          refine ⟨?_, N1d.r.chg hc5 hzm, N1d.g.on hc5 (.inr (.inl rfl))⟩
          rw [toldD_next HS.out]
          exact N1d.h.put hm5 hc5
        have t1 := N1.out.h.c1
        have v0 := A1.out.c0
        have v1 := A1.out.c1
        clear hm5 hc5 hve
        go_region
        go_wp2_with fail
        go_roundw
        case rel => exact ⟨j + 1, by omega, by go_num, N5.out⟩
        case measure => simp [intOf]; omega
      · obtain rfl : j = 8 := by omega
        have hL8 := HX.out.len
        go_wp2_with fail
        go_ret
        refine ⟨Z, L, c', HX.out, rfl, HZ.out, NJ.out.r, ?_, NJ.out.g⟩
        have := NJ.out.h
        rw [List.take_of_length_le (by omega)] at this
        exact this
  · obtain ⟨w3, happ, hr3, hc3⟩ := rows_appends R2.out ((newsL T D).take 8) ⟨g, 0, none⟩ cap 43 (fun q u hu => tk hb2 (hrow q u hu)) (by rw [HL.out]; show 0 + _ ≤ _; omega)
    have R3 : Hid (RowsB w3 w1.heap.size T ((newsL T D).take 8)) := hr3
    have B3 : Hid (Below w.heap.size w w3) := Chg.below B2.out hc3 HZ.out
    clear hr3 hc3 hrow R2 B2 B1 hb1 hb2 hr2
    obtain ⟨N, hN⟩ : ∃ N, N = (newsL T D).length := ⟨_, rfl⟩
    have g4 : N ≤ cap := by omega
    by_cases h8 : ¬ 8 < N
    · have HK : Hid (N = ((newsL T D).take 8).length) := by show _ = _; rw [HL.out]; omega
      rw [← HK.out] at happ
      rw [← hN] at *
      simp only [List.length_nil, Nat.zero_add] at happ
      have g1 : ¬ (8 : Int) < (N : Int) := by omega
      have g2 : (N : Int) ≤ (cap : Int) := by omega
      have g3 : (0 : Int) ≤ (N : Int) := by omega
      clear hN
      go_wp2_with (at_builtin; refine wpList_append_eq rfl _ _ 43 rfl _ _ _ _ rfl rfl happ ?_)
      refine (fill_len X b M n c w1.heap.size _ low T D ((newsL T D).take 8) w3 HK.out (HH.out.below B3.out) (HT.out.below B3.out) R3.out (by have h := tlt HH.out.c0; have := HZ.out; simp only at h; omega) (by have := HH.out.m.lt; have := HZ.out; omega) (by have := HT.out.lt; have := HZ.out; omega)).mono ?_
      rintro e w4 ⟨L, c', hx, rfl, hr4, hh4, hg4⟩
      have HX : Hid (Nx T D c L c') := hx
      have N2 : Hid (Nj w w4 X b M n w1.heap.size T D L c' 0) := ⟨by rw [toldD_zero]; exact hh4, hr4, (Chg2.of B3.out).fresh hg4 HZ.out⟩
      clear hx hr4 hh4 hg4 R3 B3 HL HK hmk
      obtain ⟨Z, hZ⟩ : ∃ Z, Z = w1.heap.size := ⟨_, rfl⟩
      rw [← hZ] at HZ N2 ⊢
      clear hZ
      go_wp2_with fail
      go_loopw [22] (fun t wr => ∃ j : Nat, j ≤ 8 ∧ t = .int .i64 j ∧ Nj w wr X b M n Z T D L c' j) (fun t _ => 8 - (intOf t).toNat)
      case atStart => exact ⟨0, by omega, rfl, N2.out⟩
      case round =>
        obtain ⟨j, hj, rfl, hnj⟩ := hrel
        have NJ : Hid (Nj w wr X b M n Z T D L c' j) := hnj
        clear hnj N2
        by_cases hlt : j < 8
        · have i0 : (0 : Int) ≤ (j : Int) := by omega
          have i1 : (j : Int) < 8 := by omega
          have hL8 := HX.out.len
          obtain ⟨s, hs⟩ : ∃ s, L[j]? = some s := ⟨_, List.getElem?_eq_getElem (by omega)⟩
          have HS : Hid (L[j]? = some s) := hs
          have hs32 : s < 32 := HX.out.lt s (List.mem_of_getElem? hs)
          have a0 := NJ.out.r.at' (k := 0) hs (by omega)
          have a1 := NJ.out.r.at' (k := 1) hs (by omega)
          have a2 := NJ.out.r.at' (k := 2) hs (by omega)
          have a3 := NJ.out.r.at' (k := 3) hs (by omega)
          have a4 := NJ.out.r.at' (k := 4) hs (by omega)
          have a5 := NJ.out.r.at' (k := 5) hs (by omega)
          have a6 := NJ.out.r.at' (k := 6) hs (by omega)
          have a7 := NJ.out.r.at' (k := 7) hs (by omega)
          have a8 := NJ.out.r.at' (k := 8) hs (by omega)
          have a9 := NJ.out.r.at' (k := 9) hs (by omega)
          simp only [Ce.get, Nat.add_zero] at a0 a1 a2 a3 a4 a5 a6 a7 a8 a9
          clear hs hL8
          go_wp2_with fail
          clear a0 a1 a2 a3 a4 a5 a6 a7 a8 a9
          have A1 : Hid (TcB10 (wr.alloc (.cells #[.int .i64 s, .int .i64 (T s).ve, .int .i64 (T s).pr, .int .i64 (T s).ia, .int .i64 (T s).ip, .int .i64 (T s).fa, .int .i64 (T s).fp, .int .i64 (T s).po, .int .i64 (T s).st, .int .i64 (T s).un] 59)) wr.heap.size T s) := tcB10_new _ _ _
          have N1 : Hid (Nj w (wr.alloc (.cells #[.int .i64 s, .int .i64 (T s).ve, .int .i64 (T s).pr, .int .i64 (T s).ia, .int .i64 (T s).ip, .int .i64 (T s).fa, .int .i64 (T s).fp, .int .i64 (T s).po, .int .i64 (T s).st, .int .i64 (T s).un] 59)) X b M n Z T D L c' j) := NJ.out.below (aB _ _)
          generalize wr.alloc (.cells #[.int .i64 s, .int .i64 (T s).ve, .int .i64 (T s).pr, .int .i64 (T s).ia, .int .i64 (T s).ip, .int .i64 (T s).fa, .int .i64 (T s).fp, .int .i64 (T s).po, .int .i64 (T s).st, .int .i64 (T s).un] 59) = W0 at *
          generalize wr.heap.size = V at *
          have hve := HV.out s hs32
          obtain ⟨w5, hup, hm5, hc5⟩ := (N1.out.h.below (Below.refl _ _).drew).m.put (s := s) (v := (T s).ve) hs32 hve.1 (by omega) (by omega)
          have N5 : Hid (Nj w w5 X b M n Z T D L c' (j + 1)) := by
            have N1d := N1.out.below (Below.refl _ _).drew
            have hzm : Z ≠ M := by have := HH.out.m.lt; have := HZ.out; omega
            refine ⟨?_, N1d.r.chg hc5 hzm, N1d.g.on hc5 (.inr (.inl rfl))⟩
            rw [toldD_next HS.out]
            exact N1d.h.put hm5 hc5
          have t1 := N1.out.h.c1
          have v0 := A1.out.c0
          have v1 := A1.out.c1
          clear hm5 hc5 hve
          go_region
          go_wp2_with fail
          go_roundw
          case rel => exact ⟨j + 1, by omega, by go_num, N5.out⟩
          case measure => simp [intOf]; omega
        · obtain rfl : j = 8 := by omega
          have hL8 := HX.out.len
          go_wp2_with fail
          go_ret
          refine ⟨Z, L, c', HX.out, rfl, HZ.out, NJ.out.r, ?_, NJ.out.g⟩
          have := NJ.out.h
          rw [List.take_of_length_le (by omega)] at this
          exact this
    · have HK : Hid (8 = ((newsL T D).take 8).length) := by show _ = _; rw [HL.out]; omega
      rw [← HK.out] at happ
      rw [← hN] at *
      simp only [List.length_nil, Nat.zero_add] at happ
      have g1 : (8 : Int) < (N : Int) := by omega
      have g2 : (8 : Int) ≤ (cap : Int) := by omega
      clear hN
      go_wp2_with (at_builtin; refine wpList_append_eq rfl _ _ 43 rfl _ _ _ _ rfl rfl happ ?_)
      refine (fill_len X b M n c w1.heap.size _ low T D ((newsL T D).take 8) w3 HK.out (HH.out.below B3.out) (HT.out.below B3.out) R3.out (by have h := tlt HH.out.c0; have := HZ.out; simp only at h; omega) (by have := HH.out.m.lt; have := HZ.out; omega) (by have := HT.out.lt; have := HZ.out; omega)).mono ?_
      rintro e w4 ⟨L, c', hx, rfl, hr4, hh4, hg4⟩
      have HX : Hid (Nx T D c L c') := hx
      have N2 : Hid (Nj w w4 X b M n w1.heap.size T D L c' 0) := ⟨by rw [toldD_zero]; exact hh4, hr4, (Chg2.of B3.out).fresh hg4 HZ.out⟩
      clear hx hr4 hh4 hg4 R3 B3 HL HK hmk
      obtain ⟨Z, hZ⟩ : ∃ Z, Z = w1.heap.size := ⟨_, rfl⟩
      rw [← hZ] at HZ N2 ⊢
      clear hZ
      go_wp2_with fail
      go_loopw [22] (fun t wr => ∃ j : Nat, j ≤ 8 ∧ t = .int .i64 j ∧ Nj w wr X b M n Z T D L c' j) (fun t _ => 8 - (intOf t).toNat)
      case atStart => exact ⟨0, by omega, rfl, N2.out⟩
      case round =>
        obtain ⟨j, hj, rfl, hnj⟩ := hrel
        have NJ : Hid (Nj w wr X b M n Z T D L c' j) := hnj
        clear hnj N2
        by_cases hlt : j < 8
        · have i0 : (0 : Int) ≤ (j : Int) := by omega
          have i1 : (j : Int) < 8 := by omega
          have hL8 := HX.out.len
          obtain ⟨s, hs⟩ : ∃ s, L[j]? = some s := ⟨_, List.getElem?_eq_getElem (by omega)⟩
          have HS : Hid (L[j]? = some s) := hs
          have hs32 : s < 32 := HX.out.lt s (List.mem_of_getElem? hs)
          have a0 := NJ.out.r.at' (k := 0) hs (by omega)
          have a1 := NJ.out.r.at' (k := 1) hs (by omega)
          have a2 := NJ.out.r.at' (k := 2) hs (by omega)
          have a3 := NJ.out.r.at' (k := 3) hs (by omega)
          have a4 := NJ.out.r.at' (k := 4) hs (by omega)
          have a5 := NJ.out.r.at' (k := 5) hs (by omega)
          have a6 := NJ.out.r.at' (k := 6) hs (by omega)
          have a7 := NJ.out.r.at' (k := 7) hs (by omega)
          have a8 := NJ.out.r.at' (k := 8) hs (by omega)
          have a9 := NJ.out.r.at' (k := 9) hs (by omega)
          simp only [Ce.get, Nat.add_zero] at a0 a1 a2 a3 a4 a5 a6 a7 a8 a9
          clear hs hL8
          go_wp2_with fail
          clear a0 a1 a2 a3 a4 a5 a6 a7 a8 a9
          have A1 : Hid (TcB10 (wr.alloc (.cells #[.int .i64 s, .int .i64 (T s).ve, .int .i64 (T s).pr, .int .i64 (T s).ia, .int .i64 (T s).ip, .int .i64 (T s).fa, .int .i64 (T s).fp, .int .i64 (T s).po, .int .i64 (T s).st, .int .i64 (T s).un] 59)) wr.heap.size T s) := tcB10_new _ _ _
          have N1 : Hid (Nj w (wr.alloc (.cells #[.int .i64 s, .int .i64 (T s).ve, .int .i64 (T s).pr, .int .i64 (T s).ia, .int .i64 (T s).ip, .int .i64 (T s).fa, .int .i64 (T s).fp, .int .i64 (T s).po, .int .i64 (T s).st, .int .i64 (T s).un] 59)) X b M n Z T D L c' j) := NJ.out.below (aB _ _)
          generalize wr.alloc (.cells #[.int .i64 s, .int .i64 (T s).ve, .int .i64 (T s).pr, .int .i64 (T s).ia, .int .i64 (T s).ip, .int .i64 (T s).fa, .int .i64 (T s).fp, .int .i64 (T s).po, .int .i64 (T s).st, .int .i64 (T s).un] 59) = W0 at *
          generalize wr.heap.size = V at *
          have hve := HV.out s hs32
          obtain ⟨w5, hup, hm5, hc5⟩ := (N1.out.h.below (Below.refl _ _).drew).m.put (s := s) (v := (T s).ve) hs32 hve.1 (by omega) (by omega)
          have N5 : Hid (Nj w w5 X b M n Z T D L c' (j + 1)) := by
            have N1d := N1.out.below (Below.refl _ _).drew
            have hzm : Z ≠ M := by have := HH.out.m.lt; have := HZ.out; omega
            refine ⟨?_, N1d.r.chg hc5 hzm, N1d.g.on hc5 (.inr (.inl rfl))⟩
            rw [toldD_next HS.out]
            exact N1d.h.put hm5 hc5
          have t1 := N1.out.h.c1
          have v0 := A1.out.c0
          have v1 := A1.out.c1
          clear hm5 hc5 hve
          go_region
          go_wp2_with fail
          go_roundw
          case rel => exact ⟨j + 1, by omega, by go_num, N5.out⟩
          case measure => simp [intOf]; omega
        · obtain rfl : j = 8 := by omega
          have hL8 := HX.out.len
          go_wp2_with fail
          go_ret
          refine ⟨Z, L, c', HX.out, rfl, HZ.out, NJ.out.r, ?_, NJ.out.g⟩
          have := NJ.out.h
          rw [List.take_of_length_le (by omega)] at this
          exact this
end Go.Proofs.YtifkbafdjkgnoaaDoor
