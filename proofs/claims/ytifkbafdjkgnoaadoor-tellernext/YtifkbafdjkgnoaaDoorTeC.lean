/-
  Package teller's news.
-/
import Derived.Test.YtifkbafdjkgnoaaDoorTeB
namespace Go.Proofs.YtifkbafdjkgnoaaDoor
open Go.RowKit Go.Maps

/-- what is new among the first j slots. -/
def newsN (T : Tb) (D : To) (j : Nat) : List Nat := (List.range j).filter fun i => (T i).ve != D i
theorem newsN_all (T : Tb) (D : To) : newsN T D 32 = newsL T D := rfl
theorem newsN_yes {T : Tb} {D : To} {j : Nat} (h : (T j).ve ≠ D j) : newsN T D (j + 1) = newsN T D j ++ [j] := by
  unfold newsN; rw [List.range_succ, List.filter_append]; simp [h]
theorem newsN_no {T : Tb} {D : To} {j : Nat} (h : (T j).ve = D j) : newsN T D (j + 1) = newsN T D j := by
  unfold newsN; rw [List.range_succ, List.filter_append]; simp [h]
theorem newsN_len (T : Tb) (D : To) (j : Nat) : (newsN T D j).length ≤ j := by
  have := List.length_filter_le (fun i => (T i).ve != D i) (List.range j)
  rw [List.length_range] at this
  exact this
theorem newsO_below {w w' : World} {base : Nat} {e : TypeId} {size : Nat} {v : Value} {n : Nat} {xs : List Value} (h : w.ownsRow base e size v n xs) (hb : Below w.heap.size w w') : w'.ownsRow base e size v n xs := by
  obtain ⟨h1, h2⟩ := h
  refine ⟨h1, ?_⟩
  rcases h2 with h | ⟨g, cap, cur, e1, e2, e3, r⟩
  · exact .inl h
  · exact .inr ⟨g, cap, cur, e1, e2, by rw [hb.block g (Array.getElem?_eq_some_iff.1 e3).1]; exact e3, r⟩
/-- news in memory: nil, or rows of their own. -/
def NewsV (w : World) (base : Nat) (T : Tb) (L : List Nat) (v : Value) : Prop := w.ownsRow base 59 10 v L.length (slCs T L)
set_option maxRecDepth 100000 in
set_option maxHeartbeats 4000000 in
theorem tnews_any (X b M n c : Nat) (low : Int) (T : Tb) (D : To) (w : World) (H : Tel w X b M n D c) (t : Tab w b low T) :
    Calls Tryd.prog 33 #[.pointer (some ⟨X, 0, none⟩)] w fun e w' => (∃ v, e = .returned v ∧ NewsV w' w.heap.size T (newsL T D) v) ∧ Below w.heap.size w w' := by
  obtain ⟨i0, hi, hz0, hz1, hz2⟩ := info_parts Tryd.infoCell
  have HH : Hid (Tel w X b M n D c) := H
  have HT : Hid (Tab w b low T) := t
  clear H t
  go_enter Tryd.func33, Tryd.ntmps33
  go_wp2_with fail
  go_loopw [3, 6] (fun v t wr => ∃ j : Nat, j ≤ 32 ∧ t = .int .i64 j ∧ NewsV wr w.heap.size T (newsN T D j) v ∧ Below w.heap.size w wr) (fun _ t _ => 32 - (intOf t).toNat)
  case atStart => exact ⟨0, by omega, rfl, World.ownsRow_nil _ _ _ _, Below.refl _ _⟩
  case round =>
    obtain ⟨j, hj, rfl, hown, hbr⟩ := hrel
    have HO : Hid (wr.ownsRow w.heap.size 59 10 u3 (newsN T D j).length (slCs T (newsN T D j))) := hown
    have HB : Hid (Below w.heap.size w wr) := hbr
    have hnl := newsN_len T D j
    clear hown hbr
    by_cases hlt : j < 32
    · go_wp2_with fail
      refine (tcell_any X b low T j wr (tk HB.out HH.out.c0) (HT.out.below HB.out) hlt).mono ?_
      rintro e w1 ⟨rfl, hb1⟩
      have B1 : Hid (Below w.heap.size w w1) := t2 HB.out hb1
      have O1 : Hid (w1.ownsRow w.heap.size 59 10 u3 (newsN T D j).length (slCs T (newsN T D j))) := newsO_below HO.out hb1
      clear hb1 HO HB
      unfold cellV
      go_wp2_with fail
      have A1 : Hid (TcB10 (w1.alloc (.cells #[.int .i64 j, .int .i64 (T j).ve, .int .i64 (T j).pr, .int .i64 (T j).ia, .int .i64 (T j).ip, .int .i64 (T j).fa, .int .i64 (T j).fp, .int .i64 (T j).po, .int .i64 (T j).st, .int .i64 (T j).un] 59)) w1.heap.size T j) := tcB10_new _ _ _
      have B2 : Hid (Below w.heap.size w (w1.alloc (.cells #[.int .i64 j, .int .i64 (T j).ve, .int .i64 (T j).pr, .int .i64 (T j).ia, .int .i64 (T j).ip, .int .i64 (T j).fa, .int .i64 (T j).fp, .int .i64 (T j).po, .int .i64 (T j).st, .int .i64 (T j).un] 59))) := B1.out.alloc B1.out.size _
      have O2 : Hid ((w1.alloc (.cells #[.int .i64 j, .int .i64 (T j).ve, .int .i64 (T j).pr, .int .i64 (T j).ia, .int .i64 (T j).ip, .int .i64 (T j).fa, .int .i64 (T j).fp, .int .i64 (T j).po, .int .i64 (T j).st, .int .i64 (T j).un] 59)).ownsRow w.heap.size 59 10 u3 (newsN T D j).length (slCs T (newsN T D j))) := O1.out.alloc _
      generalize w1.alloc (.cells #[.int .i64 j, .int .i64 (T j).ve, .int .i64 (T j).pr, .int .i64 (T j).ia, .int .i64 (T j).ip, .int .i64 (T j).fa, .int .i64 (T j).fp, .int .i64 (T j).po, .int .i64 (T j).st, .int .i64 (T j).un] 59) = w2 at *
      generalize w1.heap.size = V at *
      clear B1 O1
      have t1 := (HH.out.below B2.out).c1
      have hlk := (HH.out.below B2.out.drew).m.look hlt
      have a1 := A1.out.c1
      obtain ⟨od, hod⟩ : ∃ od, D j = od := ⟨_, rfl⟩
      rw [hod] at hlk
      have HOD : Hid (D j = od) := hod
      clear hod
      by_cases hve : (T j).ve = od
      · have hq : ((T j).ve == od) = true := by simp [hve]
        have HN : Hid (newsN T D (j + 1) = newsN T D j) := newsN_no (by rw [hve, HOD.out])
        clear hve
        go_region
        go_wp2_with fail
        go_roundw
        case rel => exact ⟨j + 1, by omega, by go_num, by rw [HN.out]; exact newsO_below O2.out (Below.refl _ _).drew, B2.out.drew⟩
        case measure => simp [intOf]; omega
      · have hq : ((T j).ve == od) = false := beq_eq_false_iff_ne.2 hve
        have HN : Hid (newsN T D (j + 1) = newsN T D j ++ [j]) := newsN_yes (by rw [HOD.out]; exact hve)
        clear hve
        have A3 : Hid (TcB10 w2.drew V T j) := A1.out.below (Below.refl _ _).drew
        have B3 : Hid (Below w.heap.size w w2.drew) := B2.out.drew
        have O3 : Hid (w2.drew.ownsRow w.heap.size 59 10 u3 (newsN T D j).length (slCs T (newsN T D j))) := newsO_below O2.out (Below.refl _ _).drew
        clear A1 B2 O2
        go_region
        generalize w2.drew = w3 at *
        have v0 := A3.out.c0
        have v1 := A3.out.c1
        have v2 := A3.out.c2
        have v3 := A3.out.c3
        have v4 := A3.out.c4
        have v5 := A3.out.c5
        have v6 := A3.out.c6
        have v7 := A3.out.c7
        have v8 := A3.out.c8
        have v9 := A3.out.c9
        have N4 : Hid (∀ q u, (slC T j)[q]? = some u → (w3.alloc (.cells #[.int .i64 j, .int .i64 (T j).ve, .int .i64 (T j).pr, .int .i64 (T j).ia, .int .i64 (T j).ip, .int .i64 (T j).fa, .int .i64 (T j).fp, .int .i64 (T j).po, .int .i64 (T j).st, .int .i64 (T j).un] 59)).cell? (Addr.add ⟨w3.heap.size, 0, none⟩ q) = some u) := fun q u hu => by
          rw [tadd, Nat.zero_add, nw]; simpa [slC] using hu
        go_wp2_with (at_builtin; refine wpList_append_own _ rfl _ _ 43 rfl w.heap.size 59 i0 _ 10 80 Tryd.underlying43 hi hz0 hz1 hz2 rfl (by decide) u3 (newsN T D j).length (slCs T (newsN T D j)) rfl (O3.out.alloc _) ⟨w3.heap.size, 0, none⟩ 1 1 (slC T j) rfl rfl N4.out (slC_one T j) (by unfold maxLen; omega) (by omega) (by have := B3.out.size; simp; omega) ?_)
        intro vv w5 hO5 hg5 _
        have O5 : Hid (w5.ownsRow w.heap.size 59 10 vv ((newsN T D j).length + 1) (slCs T (newsN T D j) ++ slC T j)) := hO5
        have B5 : Hid (Below w.heap.size w w5) := (B3.out.alloc B3.out.size _).grown hg5 (by have := B3.out.size; simp; omega) (fun q hq => (O3.out.lt _ hq).1)
        clear hO5 hg5 N4 v0 v1 v2 v3 v4 v5 v6 v7 v8 v9
        go_wp2_with fail
        go_roundw
        case rel =>
          refine ⟨j + 1, by omega, by go_num, ?_, B5.out⟩
          have := O5.out
          unfold NewsV
          rw [HN.out, List.length_append, slCs_app, slCs, slCs, List.append_nil]
          exact this
        case measure => simp [intOf]; omega
    · obtain rfl : j = 32 := by omega
      go_wp2_with fail
      go_ret
      exact ⟨⟨_, rfl, HO.out⟩, HB.out⟩
end Go.Proofs.YtifkbafdjkgnoaaDoor
