/-
  slices.DeleteFunc with the function of news; news; Lag.
-/
import Derived.Test.YthmnmdikpccenacDoorTeB
namespace Go.Proofs.YthmnmdikpccenacDoor
open Go.RowKit Go.Maps

theorem filt_start (p : Nat → Bool) (q : Nat) (hq : p q = false) (h : ∀ i, i < q → p i = true) : (List.range (q + 1)).filter p = List.range q := by
  rw [List.range_succ, List.filter_append]
  have h1 : (List.range q).filter p = List.range q := by
    rw [List.filter_eq_self]
    intro x hx
    exact h x (List.mem_range.1 hx)
  rw [h1]
  simp [hq]
theorem filt_yes (p : Nat → Bool) (q : Nat) (hq : p q = true) : (List.range (q + 1)).filter p = (List.range q).filter p ++ [q] := by
  rw [List.range_succ, List.filter_append]
  simp [hq]
theorem filt_no (p : Nat → Bool) (q : Nat) (hq : p q = false) : (List.range (q + 1)).filter p = (List.range q).filter p := by
  rw [List.range_succ, List.filter_append]
  simp [hq]
/-- how DeleteFunc stands at j, with i kept. -/
structure Dl (T : Tb) (D : To) (i j : Nat) (L : List Nat) : Prop where
  ij : i < j
  j32 : j ≤ 32
  len : L.length = 32
  kept : L.take i = (List.range j).filter fun s => !oldQ T D s
  rest : ∀ r, j ≤ r → r < 32 → L[r]? = some r
theorem Dl.start {T : Tb} {D : To} {q : Nat} (hq : q < 32) (h : oldQ T D q = true) (hn : ∀ i, i < q → oldQ T D i = false) : Dl T D q (q + 1) (List.range 32) :=
  ⟨by omega, by omega, by simp, by rw [filt_start _ q (by simp [h]) (fun i hi => by simp [hn i hi]), List.take_range, Nat.min_eq_left (by omega)], fun r _ hr => List.getElem?_range hr⟩
theorem Dl.keep {T : Tb} {D : To} {i j : Nat} {L : List Nat} (h : Dl T D i j L) (hj : j < 32) (hq : oldQ T D j = false) : Dl T D (i + 1) (j + 1) (L.set i j) where
  ij := by have := h.ij; omega
  j32 := by omega
  len := by rw [List.length_set]; exact h.len
  kept := by
    have hi : i < L.length := by have := h.ij; have := h.len; omega
    rw [filt_yes _ j (by simp [hq]), ← h.kept, List.take_add_one, List.getElem?_set_self hi, List.take_set_of_le (Nat.le_refl _)]
    rfl
  rest := fun r h1 h2 => by rw [List.getElem?_set_ne (by have := h.ij; omega)]; exact h.rest r (by omega) h2
theorem Dl.skip {T : Tb} {D : To} {i j : Nat} {L : List Nat} (h : Dl T D i j L) (hj : j < 32) (hq : oldQ T D j = true) : Dl T D i (j + 1) L :=
  ⟨by have := h.ij; omega, by omega, h.len, by rw [filt_no _ j (by simp [hq])]; exact h.kept, fun r h1 h2 => h.rest r (by omega) h2⟩
theorem Dl.ilen {T : Tb} {D : To} {i : Nat} {L : List Nat} (h : Dl T D i 32 L) : L.take i = newsL T D ∧ (newsL T D).length = i := by
  have h1 : L.take i = newsL T D := h.kept
  refine ⟨h1, ?_⟩
  rw [← h1, List.length_take, h.len]
  have := h.ij
  omega
/-- a slot's cell in a block of its own. -/
structure TcB10 (w : World) (b : Nat) (T : Tb) (s : Nat) : Prop where
  c0 : w.cell? ⟨b, 0, none⟩ = some (.int .i64 s)
  c1 : w.cell? ⟨b, 1, none⟩ = some (.int .i64 (T s).ve)
  c2 : w.cell? ⟨b, 2, none⟩ = some (.int .i64 (T s).pr)
  c3 : w.cell? ⟨b, 3, none⟩ = some (.int .i64 (T s).ia)
  c4 : w.cell? ⟨b, 4, none⟩ = some (.int .i64 (T s).ip)
  c5 : w.cell? ⟨b, 5, none⟩ = some (.int .i64 (T s).fa)
  c6 : w.cell? ⟨b, 6, none⟩ = some (.int .i64 (T s).fp)
  c7 : w.cell? ⟨b, 7, none⟩ = some (.int .i64 (T s).po)
  c8 : w.cell? ⟨b, 8, none⟩ = some (.int .i64 (T s).st)
  c9 : w.cell? ⟨b, 9, none⟩ = some (.int .i64 (T s).un)
theorem TcB10.below {w w' : World} {b : Nat} {T : Tb} {s : Nat} (h : TcB10 w b T s) (hb : Below w.heap.size w w') : TcB10 w' b T s :=
  ⟨tk hb h.c0, tk hb h.c1, tk hb h.c2, tk hb h.c3, tk hb h.c4, tk hb h.c5, tk hb h.c6, tk hb h.c7, tk hb h.c8, tk hb h.c9⟩
theorem TcB10.chg {w w' : World} {b g : Nat} {T : Tb} {s : Nat} (h : TcB10 w b T s) (hb : Chg g w w') (hn : b ≠ g) : TcB10 w' b T s :=
  ⟨hb.keeps hn h.c0, hb.keeps hn h.c1, hb.keeps hn h.c2, hb.keeps hn h.c3, hb.keeps hn h.c4, hb.keeps hn h.c5, hb.keeps hn h.c6, hb.keeps hn h.c7, hb.keeps hn h.c8, hb.keeps hn h.c9⟩
theorem tcB10_new (w : World) (T : Tb) (s : Nat) : TcB10 (w.alloc (.cells #[.int .i64 s, .int .i64 (T s).ve, .int .i64 (T s).pr, .int .i64 (T s).ia, .int .i64 (T s).ip, .int .i64 (T s).fa, .int .i64 (T s).fp, .int .i64 (T s).po, .int .i64 (T s).st, .int .i64 (T s).un] 49)) w.heap.size T s :=
  ⟨(nw _ _ _ _).trans rfl, (nw _ _ _ _).trans rfl, (nw _ _ _ _).trans rfl, (nw _ _ _ _).trans rfl, (nw _ _ _ _).trans rfl, (nw _ _ _ _).trans rfl, (nw _ _ _ _).trans rfl, (nw _ _ _ _).trans rfl, (nw _ _ _ _).trans rfl, (nw _ _ _ _).trans rfl⟩
set_option maxRecDepth 100000 in
set_option maxHeartbeats 4000000 in
theorem delete_any (V X b M n c Z : Nat) (T : Tb) (D : To) (w : World) (V0 : w.cell? ⟨V, 0, none⟩ = some (.pointer (some ⟨X, 0, none⟩))) (H : Tel w X b M n D c) (R : RowsB w Z T (List.range 32)) (hV : V ≠ Z) (hX : X ≠ Z) (hM : M ≠ Z) :
    Calls Tryd.prog 77 #[.slice (some ⟨Z, 0, none⟩) 32 32, newsFn V] w fun e w' => e = .returned (.slice (some ⟨Z, 0, none⟩) (newsL T D).length 32) ∧ RowsB w' Z T (newsL T D) ∧ Chg Z w w' := by
  have HH : Hid (Tel w X b M n D c) := H
  have HV : Hid (w.cell? ⟨V, 0, none⟩ = some (.pointer (some ⟨X, 0, none⟩))) := V0
  have HR : Hid (RowsB w Z T (List.range 32)) := R
  have HN : Hid (V ≠ Z ∧ X ≠ Z ∧ M ≠ Z) := ⟨hV, hX, hM⟩
  clear H V0 R hV hX hM
  go_enter Tryd.func77, Tryd.ntmps77
  go_wp2_with fail
  refine (nindex_any V X b M n c Z T D _ HV.out HH.out HR.out).mono ?_
  rintro e w1 ⟨⟨k, rfl, hk⟩, hb1⟩
  have B1 : Hid (Below w.heap.size w w1) := hb1
  clear hb1
  rcases hk with ⟨rfl, hno⟩ | ⟨q, hq, rfl, hold, hno⟩
  · have HL : Hid (newsL T D = List.range 32) := by
      show _ = _
      rw [newsL_old, List.filter_eq_self]
      intro s hs
      simp [hno s (List.mem_range.1 hs)]
    clear hno
    go_wp2_with fail
    go_ret
    refine ⟨?_, ?_, Chg.of B1.out⟩
    · rw [HL.out, List.length_range]; rfl
    · rw [HL.out]; exact HR.out.below B1.out
  · have D0 : Hid (Dl T D q (q + 1) (List.range 32)) := Dl.start hq hold hno
    clear hold hno
    have hq1 : ((q : Int) == -1) = false := beq_eq_false_iff_ne.2 (by omega)
    go_wp2_with fail
    go_loopw [5, 6] (fun ti tj wr => ∃ (i j : Nat) (L : List Nat), ti = .int .i64 i ∧ tj = .int .i64 j ∧ Dl T D i j L ∧ RowsB wr Z T L ∧ Chg Z w wr) (fun _ tj _ => 32 - (intOf tj).toNat)
    case atStart => exact ⟨q, q + 1, List.range 32, rfl, by go_num, D0.out, HR.out.below B1.out, Chg.of B1.out⟩
    case round =>
      obtain ⟨i, j, L, rfl, rfl, hd, hr, hc⟩ := hrel
      have HD : Hid (Dl T D i j L) := hd
      have R1 : Hid (RowsB wr Z T L) := hr
      have C1 : Hid (Chg Z w wr) := hc
      have hij := hd.ij
      have hj := hd.j32
      clear hd hr hc D0 B1
      by_cases hlt : j < 32
      · have i0 : (0 : Int) ≤ (j : Int) := by omega
        have i1 : (j : Int) < 32 := by omega
        have k0 : (0 : Int) ≤ (i : Int) := by omega
        have k1 : (i : Int) < 32 := by omega
        have hj32 : L[j]? = some j := HD.out.rest j (Nat.le_refl _) hlt
        have c0 := R1.out.at' (k := 0) hj32 (by omega)
        have c1 := R1.out.at' (k := 1) hj32 (by omega)
        have c2 := R1.out.at' (k := 2) hj32 (by omega)
        have c3 := R1.out.at' (k := 3) hj32 (by omega)
        have c4 := R1.out.at' (k := 4) hj32 (by omega)
        have c5 := R1.out.at' (k := 5) hj32 (by omega)
        have c6 := R1.out.at' (k := 6) hj32 (by omega)
        have c7 := R1.out.at' (k := 7) hj32 (by omega)
        have c8 := R1.out.at' (k := 8) hj32 (by omega)
        have c9 := R1.out.at' (k := 9) hj32 (by omega)
        simp only [Ce.get, Nat.add_zero] at c0 c1 c2 c3 c4 c5 c6 c7 c8 c9
        clear hj32
        go_wp2_with fail
        clear c0 c1 c2 c3 c4 c5 c6 c7 c8 c9
        have A1 : Hid (TcB10 (wr.alloc (.cells #[.int .i64 j, .int .i64 (T j).ve, .int .i64 (T j).pr, .int .i64 (T j).ia, .int .i64 (T j).ip, .int .i64 (T j).fa, .int .i64 (T j).fp, .int .i64 (T j).po, .int .i64 (T j).st, .int .i64 (T j).un] 49)) wr.heap.size T j) := tcB10_new _ _ _
        have BA : Hid (Below wr.heap.size wr (wr.alloc (.cells #[.int .i64 j, .int .i64 (T j).ve, .int .i64 (T j).pr, .int .i64 (T j).ia, .int .i64 (T j).ip, .int .i64 (T j).fa, .int .i64 (T j).fp, .int .i64 (T j).po, .int .i64 (T j).st, .int .i64 (T j).un] 49))) := aB _ _
        refine (newsF_any V X b M n c T D j _ hlt (tk BA.out (C1.out.keeps HN.out.1 HV.out)) ((HH.out.chg C1.out HN.out.2.1 HN.out.2.2).below BA.out)).mono ?_
        rintro e w2 ⟨rfl, hb2⟩
        have B2 : Hid (Below wr.heap.size wr w2) := t2 BA.out hb2
        have A2 : Hid (TcB10 w2 wr.heap.size T j) := A1.out.below hb2
        clear hb2 A1 BA
        rcases hq : oldQ T D j with _ | _
        · have D2 : Hid (Dl T D (i + 1) (j + 1) (L.set i j)) := HD.out.keep hlt hq
          clear hq
          obtain ⟨w3, hst, hr3, hc3⟩ := rows_store (R1.out.below B2.out) (i := i) j (by omega)
          have R3 : Hid (RowsB w3 Z T (L.set i j)) := hr3
          have C3 : Hid (Chg Z w w3) := (C1.out.then B2.out).trans hc3
          have v0 := A2.out.c0
          have v1 := A2.out.c1
          have v2 := A2.out.c2
          have v3 := A2.out.c3
          have v4 := A2.out.c4
          have v5 := A2.out.c5
          have v6 := A2.out.c6
          have v7 := A2.out.c7
          have v8 := A2.out.c8
          have v9 := A2.out.c9
          clear hr3 hc3
          go_wp2_with (refine wpList_store_eq rfl 49 _ _ rfl _ _ _ rfl rfl hst ?_)
          go_roundw
          case rel => exact ⟨i + 1, j + 1, _, by go_num, by go_num, D2.out, R3.out, C3.out⟩
          case measure => simp [intOf]; omega
        · have D2 : Hid (Dl T D i (j + 1) L) := HD.out.skip hlt hq
          clear hq
          go_wp2_with fail
          go_roundw
          case rel => exact ⟨i, j + 1, L, rfl, by go_num, D2.out, R1.out.below B2.out, C1.out.then B2.out⟩
          case measure => simp [intOf]; omega
      · obtain rfl : j = 32 := by omega
        obtain ⟨w5, hclr, hr5, hc5⟩ := rows_clear R1.out i (32 - i) 0 (by omega)
        obtain ⟨e1, e2⟩ := HD.out.ilen
        have HE : Hid ((newsL T D).length = i) := e2
        have R5 : Hid (RowsB w5 Z T (newsL T D)) := by rw [e1] at hr5; exact hr5
        have C5 : Hid (Chg Z w w5) := C1.out.trans hc5
        clear hr5 hc5 e1 e2
        go_wp2_with fail
        go_ret
        exact ⟨by rw [HE.out]; rfl, R5.out, C5.out⟩
end Go.Proofs.YthmnmdikpccenacDoor
