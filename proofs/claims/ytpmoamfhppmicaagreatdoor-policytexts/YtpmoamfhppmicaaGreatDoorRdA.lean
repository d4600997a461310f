/-
  Package digits' Read, package policy's readName.
-/
import Derived.Test.YtpmoamfhppmicaaGreatDoorRdM
namespace Go.Proofs.YtpmoamfhppmicaaGreatDoor
open Go.RowKit

theorem bne_l {a b : ByteArray} (h : ¬ a = b) : (a.toList == b.toList) = false := by
  rw [beq_eq_false_iff_ne]
  intro e
  apply h
  apply ByteArray.ext
  have := congrArg List.toArray e
  simpa [ByteArray.toList_eq] using this
theorem beq_l (a : ByteArray) : (a.toList == a.toList) = true := beq_self_eq_true _
set_option maxRecDepth 100000 in
set_option maxHeartbeats 2000000 in
theorem number_yes (x : ByteArray) (hx : x.size ≤ 4000) (n : Int) (hn : numOf x.data.toList 5 = n) (h : 0 ≤ n) (w : World) (T : Pow w) :
    Calls Tryz.prog 37 #[.string x] w fun e w' => e = .returned (.tuple #[.int .i64 n, .bool true]) ∧ Below w.heap.size w w' := by
  have HT : Hid (Pow w) := T
  have hy := num_yes (l := x.data.toList) (by omega)
  rw [hn] at hy
  have h5 : x.size ≤ 5 := by have := hy.2.1; rw [bytes_len] at this; exact this
  have hlt : n < 100000 := by have := numOf_lt x.data.toList; omega
  have HY : Hid (Lib.atoiAll x.data.toList = .ok n ∧ x.data.toList.length ≤ 5 ∧ Lib.itoa n = x.data.toList) := hy
  have h5' : ¬ (5 : Int) < (x.size : Int) := by omega
  clear T hy hn
  go_enter Tryz.func37, Tryz.ntmps37
  go_wp2_with fail
  refine (atoi_ok x hx n HY.out.1 _).mono ?_
  rintro e w1 ⟨rfl, hb1⟩
  have B1 : Hid (Below w.heap.size w w1) := hb1
  clear hb1
  go_wp2_with fail
  refine (itoa_any n (by omega) (by omega) _ (HT.out.below B1.out)).mono ?_
  rintro e w2 ⟨rfl, hb2⟩
  have B2 : Hid (Below w.heap.size w w2) := below2 B1.out hb2
  clear hb2
  have ex : (⟨(Lib.itoa n).toArray⟩ : ByteArray) = x := by rw [HY.out.2.2]
  rw [ex]
  clear ex
  go_wp2_with fail
  go_ret2
  exact ⟨rfl, B2.out⟩
set_option maxRecDepth 100000 in
set_option maxHeartbeats 2000000 in
theorem number_no (x : ByteArray) (hx : x.size ≤ 4000) (h : numOf x.data.toList 5 < 0) (w : World) (L : Libs w) (T : Pow w) :
    Calls Tryz.prog 37 #[.string x] w fun e w' => e = .returned (.tuple #[.int .i64 0, .bool false]) ∧ Below w.heap.size w w' := by
  have HT : Hid (Pow w) := T
  have HL : Hid (Libs w) := L
  have HN : Hid (numOf x.data.toList 5 < 0) := h
  clear T L h
  by_cases h5 : 5 < x.size
  · have h5' : (5 : Int) < (x.size : Int) := by omega
    go_enter Tryz.func37, Tryz.ntmps37
    go_wp2_with fail
    go_ret2
    exact ⟨rfl, Below.refl _ _⟩
  have h5' : ¬ (5 : Int) < (x.size : Int) := by omega
  by_cases hu : ∃ u, Lib.atoiAll x.data.toList = .ok u
  · obtain ⟨v, hv⟩ := hu
    have hbd := Lib.atoiAll_bounds hv
    have HV : Hid (Lib.atoiAll x.data.toList = .ok v) := hv
    clear hv
    by_cases h0 : v < 0
    · go_enter Tryz.func37, Tryz.ntmps37
      go_wp2_with fail
      refine (atoi_ok x hx v HV.out _).mono ?_
      rintro e w1 ⟨rfl, hb1⟩
      have B1 : Hid (Below w.heap.size w w1) := hb1
      clear hb1
      go_wp2_with fail
      go_ret2
      exact ⟨rfl, B1.out⟩
    have HE : Hid (¬ Lib.itoa v = x.data.toList) := num_no HN.out (by omega) (by rw [bytes_len]; omega)
    go_enter Tryz.func37, Tryz.ntmps37
    go_wp2_with fail
    refine (atoi_ok x hx v HV.out _).mono ?_
    rintro e w1 ⟨rfl, hb1⟩
    have B1 : Hid (Below w.heap.size w w1) := hb1
    clear hb1
    go_wp2_with fail
    refine (itoa_any v (by omega) (by omega) _ (HT.out.below B1.out)).mono ?_
    rintro e w2 ⟨rfl, hb2⟩
    have B2 : Hid (Below w.heap.size w w2) := below2 B1.out hb2
    clear hb2
    obtain ⟨y, hy⟩ : ∃ y : ByteArray, y = ⟨(Lib.itoa v).toArray⟩ := ⟨_, rfl⟩
    have hne : ¬ y = x := fun e => HE.out (by rw [← e, hy])
    rw [← hy]
    have hq := bne_l hne
    clear hy hne
    go_wp2_with fail
    go_ret2
    exact ⟨rfl, B2.out⟩
  · have HV : Hid (∀ v, Lib.atoiAll x.data.toList ≠ .ok v) := fun v hv => hu ⟨v, hv⟩
    clear hu
    go_enter Tryz.func37, Tryz.ntmps37
    go_wp2_with fail
    refine (atoi_bad x hx HV.out _ HL.out).mono ?_
    rintro e w1 ⟨⟨n, t, a, rfl⟩, hb1⟩
    have B1 : Hid (Below w.heap.size w w1) := hb1
    clear hb1
    go_wp2_with fail
    go_ret2
    exact ⟨rfl, B1.out⟩
set_option maxRecDepth 100000 in
set_option maxHeartbeats 4000000 in
theorem name_two (i : Nat) (hi : i = 0 ∨ i = 1) (y0 y1 x : ByteArray) (b o k : Nat) (w : World) (s0 : w.cell? ⟨2, i, none⟩ = some (.slice (some ⟨b, o, none⟩) 2 k)) (d0 : w.cell? ⟨b, o, none⟩ = some (.string y0)) (d1 : w.cell? ⟨b, o + 1, none⟩ = some (.string y1)) (r : Nat) (ok : Bool)
    (hr : (y0 = x ∧ r = 0 ∧ ok = true) ∨ (¬ y0 = x ∧ y1 = x ∧ r = 1 ∧ ok = true) ∨ (¬ y0 = x ∧ ¬ y1 = x ∧ r = 0 ∧ ok = false)) :
    Calls Tryz.prog 35 #[.int .i64 i, .string x] w fun e w' => e = .returned (.tuple #[.int .i64 r, .bool ok]) ∧ w' = w := by
  rcases hr with ⟨rfl, rfl, rfl⟩ | ⟨h0, rfl, rfl, rfl⟩ | ⟨h0, h1, rfl, rfl⟩
  · have q0 := beq_l y0
    rcases hi with rfl | rfl
    all_goals
      go_enter Tryz.func35, Tryz.ntmps35
      go_wp2_with fail
      refine wp_loop_rounds 3 ?_
      rw [rounds_succ]
      go_wp2_with fail
      go_ret2
      exact ⟨rfl, rfl⟩
  · have q0 := bne_l h0
    have q1 := beq_l y1
    clear h0
    rcases hi with rfl | rfl
    all_goals
      go_enter Tryz.func35, Tryz.ntmps35
      go_wp2_with fail
      refine wp_loop_rounds 3 ?_
      rw [rounds_succ]
      go_wp2_with fail
      rw [rounds_succ]
      go_wp2_with fail
      go_ret2
      exact ⟨rfl, rfl⟩
  · have q0 := bne_l h0
    have q1 := bne_l h1
    clear h0 h1
    rcases hi with rfl | rfl
    all_goals
      go_enter Tryz.func35, Tryz.ntmps35
      go_wp2_with fail
      refine wp_loop_rounds 3 ?_
      rw [rounds_succ]
      go_wp2_with fail
      rw [rounds_succ]
      go_wp2_with fail
      rw [rounds_succ]
      go_wp2_with fail
      go_ret2
      exact ⟨rfl, rfl⟩
set_option maxRecDepth 100000 in
set_option maxHeartbeats 4000000 in
theorem name_three (y0 y1 y2 x : ByteArray) (b o k : Nat) (w : World) (s0 : w.cell? ⟨2, 2, none⟩ = some (.slice (some ⟨b, o, none⟩) 3 k)) (d0 : w.cell? ⟨b, o, none⟩ = some (.string y0)) (d1 : w.cell? ⟨b, o + 1, none⟩ = some (.string y1)) (d2 : w.cell? ⟨b, o + 2, none⟩ = some (.string y2)) (r : Nat) (ok : Bool)
    (hr : (y0 = x ∧ r = 0 ∧ ok = true) ∨ (¬ y0 = x ∧ y1 = x ∧ r = 1 ∧ ok = true) ∨ (¬ y0 = x ∧ ¬ y1 = x ∧ y2 = x ∧ r = 2 ∧ ok = true) ∨ (¬ y0 = x ∧ ¬ y1 = x ∧ ¬ y2 = x ∧ r = 0 ∧ ok = false)) :
    Calls Tryz.prog 35 #[.int .i64 2, .string x] w fun e w' => e = .returned (.tuple #[.int .i64 r, .bool ok]) ∧ w' = w := by
  rcases hr with ⟨rfl, rfl, rfl⟩ | ⟨h0, rfl, rfl, rfl⟩ | ⟨h0, h1, rfl, rfl, rfl⟩ | ⟨h0, h1, h2, rfl, rfl⟩
  · have q0 := beq_l y0
    go_enter Tryz.func35, Tryz.ntmps35
    go_wp2_with fail
    refine wp_loop_rounds 4 ?_
    rw [rounds_succ]
    go_wp2_with fail
    go_ret2
    exact ⟨rfl, rfl⟩
  · have q0 := bne_l h0
    have q1 := beq_l y1
    clear h0
    go_enter Tryz.func35, Tryz.ntmps35
    go_wp2_with fail
    refine wp_loop_rounds 4 ?_
    rw [rounds_succ]
    go_wp2_with fail
    rw [rounds_succ]
    go_wp2_with fail
    go_ret2
    exact ⟨rfl, rfl⟩
  · have q0 := bne_l h0
    have q1 := bne_l h1
    have q2 := beq_l y2
    clear h0 h1
    go_enter Tryz.func35, Tryz.ntmps35
    go_wp2_with fail
    refine wp_loop_rounds 4 ?_
    rw [rounds_succ]
    go_wp2_with fail
    rw [rounds_succ]
    go_wp2_with fail
    rw [rounds_succ]
    go_wp2_with fail
    go_ret2
    exact ⟨rfl, rfl⟩
  · have q0 := bne_l h0
    have q1 := bne_l h1
    have q2 := bne_l h2
    clear h0 h1 h2
    go_enter Tryz.func35, Tryz.ntmps35
    go_wp2_with fail
    refine wp_loop_rounds 4 ?_
    rw [rounds_succ]
    go_wp2_with fail
    rw [rounds_succ]
    go_wp2_with fail
    rw [rounds_succ]
    go_wp2_with fail
    rw [rounds_succ]
    go_wp2_with fail
    go_ret2
    exact ⟨rfl, rfl⟩
theorem name_any (i : Nat) (hi : i < 3) (x : ByteArray) (w : World) (N : PNm w) :
    Calls Tryz.prog 35 #[.int .i64 i, .string x] w fun e w' => e = .returned (.tuple #[.int .i64 (((nameOf i x).getD 0 : Nat) : Int), .bool (nameOf i x).isSome]) ∧ w' = w := by
  obtain ⟨b, o, k, s0, d⟩ := N i hi
  by_cases h2 : i = 2
  · subst h2
    refine name_three _ _ _ x b o k w s0 (d 0 (by decide)) (d 1 (by decide)) (d 2 (by decide)) _ _ ?_
    unfold nameOf
    by_cases e0 : x = ⟨(nmW 2 0).toArray⟩
    · exact .inl ⟨e0.symm, by rw [if_pos e0]; exact ⟨rfl, rfl⟩⟩
    · rw [if_neg e0]
      by_cases e1 : x = ⟨(nmW 2 1).toArray⟩
      · exact .inr (.inl ⟨fun e => e0 e.symm, e1.symm, by rw [if_pos e1]; exact ⟨rfl, rfl⟩⟩)
      · rw [if_neg e1]
        by_cases e2 : x = ⟨(nmW 2 2).toArray⟩
        · exact .inr (.inr (.inl ⟨fun e => e0 e.symm, fun e => e1 e.symm, e2.symm, by rw [if_pos ⟨rfl, e2⟩]; exact ⟨rfl, rfl⟩⟩))
        · exact .inr (.inr (.inr ⟨fun e => e0 e.symm, fun e => e1 e.symm, fun e => e2 e.symm, by rw [if_neg (fun h => e2 h.2)]; exact ⟨rfl, rfl⟩⟩))
  · have hl : nmLen i = 2 := by unfold nmLen; rw [if_neg h2]
    rw [hl] at s0 d
    refine name_two i (by omega) _ _ x b o k w s0 (d 0 (by decide)) (d 1 (by decide)) _ _ ?_
    unfold nameOf
    by_cases e0 : x = ⟨(nmW i 0).toArray⟩
    · exact .inl ⟨e0.symm, by rw [if_pos e0]; exact ⟨rfl, rfl⟩⟩
    · rw [if_neg e0]
      by_cases e1 : x = ⟨(nmW i 1).toArray⟩
      · exact .inr (.inl ⟨fun e => e0 e.symm, e1.symm, by rw [if_pos e1]; exact ⟨rfl, rfl⟩⟩)
      · rw [if_neg e1, if_neg (fun h => h2 h.1)]
        exact .inr (.inr ⟨fun e => e0 e.symm, fun e => e1 e.symm, rfl, rfl⟩)
end Go.Proofs.YtpmoamfhppmicaaGreatDoor
