/-
  The document's Open of a cell.
-/
import Derived.Test.YtdkfjjamfefcaabDoorCaO
namespace Go.Proofs.YtdkfjjamfefcaabDoor
open Go.RowKit

set_option maxRecDepth 100000 in
set_option maxHeartbeats 8000000 in
theorem ropen_any (n : Nat) (s : By) (lv : Int) (w : World) (R : RBy w n s lv) (hB : s.B.length = 64) :
    Calls Tryd.prog 64 #[.pointer (some ⟨n, 0, none⟩)] w fun e w' => (e = .returned (.pointer (some ⟨w.heap.size, 0, none⟩)) ∧ RCe w' w.heap.size n (newest s.B) false) ∧ Below w.heap.size w w' := by
  have HR : Hid (RBy w n s lv) := R
  have HL : Hid (s.B.length = 64) := hB
  clear R hB
  go_enter Tryd.func64, Tryd.ntmps64
  go_wp2_with fail
  obtain ⟨w1, hw1⟩ : ∃ w1, w1 = w.alloc (.cells #[.pointer (some ⟨n, 0, none⟩), .int .i64 0, .int .i64 0, .int .i64 0, .bool false] 108) := ⟨_, rfl⟩
  have C1 : Hid (RCe w1 w.heap.size n ⟨0, 0, 0⟩ false) := by rw [hw1]; exact heap_alloc_new w _
  have B1 : Hid (Below w.heap.size w w1) := by rw [hw1]; exact aB _ _
  rw [← hw1]
  clear hw1
  obtain ⟨Z, hZ⟩ : ∃ Z, Z = w.heap.size := ⟨_, rfl⟩
  have HZ : Hid (Z = w.heap.size) := hZ
  rw [← hZ] at C1 ⊢
  clear hZ
  go_loopw [4] (fun t wr => ∃ k : Nat, k ≤ 2 ∧ t = .int .i64 k ∧ RCe wr Z n (newestK s.B k) false ∧ Below Z w wr) (fun t _ => 2 - (intOf t).toNat)
  case atStart => exact ⟨0, by omega, rfl, C1.out, by rw [HZ.out]; exact B1.out⟩
  case round =>
    obtain ⟨k, hk, rfl, hc, hb⟩ := hrel
    have CR : Hid (RCe wr Z n (newestK s.B k) false) := hc
    have BR : Hid (Below Z w wr) := hb
    clear hc hb
    by_cases hlt : k < 2
    · have RR : Hid (RBy wr n s lv) := HR.out.below (by rw [← HZ.out]; exact BR.out)
      have b0 := RR.out.c0
      have zS : (stB s.B).size = 64 := HL.out
      obtain ⟨p, hp⟩ : ∃ p, p = 20 * k := ⟨_, rfl⟩
      have HT : Hid ((stB s.B).extract p (p + 17) = stB (slotT s.B k)) := by
        show _ = _
        rw [ext_stB, hp]
        unfold slotT
        rw [show 20 * k + 17 - 20 * k = 17 from by omega]
      have hpv : (20 : Int) * (k : Int) = (p : Int) := by omega
      have p1 : (p : Int) ≤ 20 := by omega
      have p2 : (p : Int) + 17 ≤ 64 := by omega
      have p3 : (p : Int) ≤ (p : Int) + 17 := by omega
      have p4 : ((p : Int) + 17).toNat = p + 17 := by omega
      have p5 : (0 : Int) ≤ (p : Int) + 17 := by omega
      have zT : (stB (slotT s.B k)).size = 17 := slotT_len HL.out k hlt
      have HV0 : Hid (∀ u, Calls Tryd.prog 93 #[.string ((stB (slotT s.B k)).extract 0 4)] u fun e w' => e = .returned (.int .i64 (slotN s.B k).n) ∧ w' = u) := fun u => by
        rw [ext_stB, nm_T HL.out k hlt]
        have := value_any ((slotT s.B k).drop 0 |>.take (4 - 0)) (by simp [slotT_len HL.out k hlt]) u
        rw [show 4 - 0 = 4 from rfl, beN_piece] at this
        exact this
      have HV1 : Hid (∀ u, Calls Tryd.prog 93 #[.string ((stB (slotT s.B k)).extract 4 8)] u fun e w' => e = .returned (.int .i64 (slotN s.B k).e) ∧ w' = u) := fun u => by
        rw [ext_stB, nm_T HL.out k hlt]
        have := value_any ((slotT s.B k).drop 4 |>.take (8 - 4)) (by simp [slotT_len HL.out k hlt]) u
        rw [show 8 - 4 = 4 from rfl, beN_piece] at this
        exact this
      have HV2 : Hid (∀ u, Calls Tryd.prog 93 #[.string ((stB (slotT s.B k)).extract 8 12)] u fun e w' => e = .returned (.int .i64 (slotN s.B k).l) ∧ w' = u) := fun u => by
        rw [ext_stB, nm_T HL.out k hlt]
        have := value_any ((slotT s.B k).drop 8 |>.take (12 - 8)) (by simp [slotT_len HL.out k hlt]) u
        rw [show 12 - 8 = 4 from rfl, beN_piece] at this
        exact this
      have hxl := slotN_lt s.B k
      have BO : Hid (∀ u, Calls Tryd.prog 94 #[.int .i64 (slotN s.B k).n, .int .i64 (slotN s.B k).e, .int .i64 (slotN s.B k).l] u fun e w' => e = .returned (.string (stB (img (slotN s.B k)))) ∧ Below u.heap.size u w') := fun u => rbody_any (slotN s.B k) hxl.1 hxl.2.1 hxl.2.2 u
      have HH : Hid (isHeld s.B k = ((stB (img (slotN s.B k)) ++ stB [165]).toList == (stB (slotT s.B k)).toList && decide (1 ≤ (slotN s.B k).n) && (slotN s.B k).n % 2 == k)) := by
        show _ = _
        rw [stB_append]; exact held_T HL.out k hlt
      have HN : Hid (newestK s.B (k + 1) = if isHeld s.B k = true ∧ ¬ (slotN s.B k).n < (newestK s.B k).n then slotN s.B k else newestK s.B k) := next_T k hlt
      have zI : (stB (img (slotN s.B k))).size = 16 := rfl
      generalize stB (slotT s.B k) = T at *
      generalize stB (img (slotN s.B k)) = I at *
      generalize stB s.B = S at *
      generalize slotN s.B k = x at *
      generalize newestK s.B k = y at *
      generalize isHeld s.B k = held at *
      have c1 := CR.out.c1
      have c2 := CR.out.c2
      have c3 := CR.out.c3
      have cf := fun i => CR.out.fr i
      clear hp hxl
      go_wp2_with fail
      rw [HT.out]
      refine (HV0.out _).mono ?_
      rintro e w' ⟨rfl, hw'⟩
      obtain rfl := hw'.symm
      clear HT b0 zS
      by_cases hgo : x.n < 1 ∨ x.n % 2 ≠ k ∨ x.n < y.n
      · have HNY : Hid (newestK s.B (k + 1) = y) := by
          show _ = _
          rw [HN.out, if_neg]
          rintro ⟨h1, h2⟩
          rw [HH.out] at h1
          simp at h1
          omega
        have hcs : (x.n : Int) < 1 ∨ (¬ (x.n : Int) < 1 ∧ ((x.n : Int) % 2 != (k : Int)) = true) ∨ (¬ (x.n : Int) < 1 ∧ ((x.n : Int) % 2 != (k : Int)) = false ∧ (x.n : Int) < (y.n : Int)) := by
          by_cases a : (x.n : Int) < 1
          · exact .inl a
          · by_cases c : (x.n : Int) % 2 = (k : Int)
            · exact .inr (.inr ⟨a, by simp [c], by omega⟩)
            · exact .inr (.inl ⟨a, by simp [c]⟩)
        clear hgo
        rcases hcs with g1 | ⟨g1, g2⟩ | ⟨g1, g2, g3⟩
        all_goals
          go_wp2_with fail
          exact ⟨⟨k + 1, by omega, by go_num, by rw [HNY.out]; exact CR.out, BR.out⟩, by simp [intOf]; omega⟩
      · have g1 : ¬ (x.n : Int) < 1 := by omega
        have g2 : ((x.n : Int) % 2 != (k : Int)) = false := by
          have : (x.n : Int) % 2 = (k : Int) := by omega
          simp [this]
        have g3 : ¬ (x.n : Int) < (y.n : Int) := by omega
        have HN2 : Hid (newestK s.B (k + 1) = if ((I ++ stB [165]).toList == T.toList) = true then x else y) := by
          show _ = _
          rw [HN.out, HH.out]
          have e1 : decide (1 ≤ x.n) = true := decide_eq_true (by omega)
          have e2 : (x.n % 2 == k) = true := beq_iff_eq.2 (by omega)
          have e3 : ¬ x.n < y.n := by omega
          rw [e1, e2, Bool.and_true, Bool.and_true]
          by_cases hd : ((I ++ stB [165]).toList == T.toList) = true
          · rw [if_pos ⟨hd, e3⟩, if_pos hd]
          · rw [if_neg (fun h => hd h.1), if_neg hd]
        clear hgo
        have z165 : (stB [165]).size = 1 := rfl
        have BY : Hid (∀ u, Calls Tryd.prog 95 #[.int .i64 165] u fun e w' => e = .returned (.string (stB [165])) ∧ Below u.heap.size u w') := byte165
        generalize stB [165] = V at *
        have hz : ¬ 9223372036854775807 < I.size + V.size := by omega
        generalize hD : ((I ++ V).toList == T.toList) = D at *
        have hS : Below wr.heap.size wr wr.drew := (Below.refl _ _).drew
        go_wp2_with fail
        go_region_held3 (fun w' => Below wr.heap.size wr w') (first | assumption | exact t2 (by assumption) (by assumption))
          (first
            | (go_at_call_of 93 (Value.string (T.extract 4 8)); refine (HV1.out _).mono ?_; rintro e v1 ⟨rfl, hv⟩; obtain rfl := hv.symm)
            | (go_at_call_of 93 (Value.string (T.extract 8 12)); refine (HV2.out _).mono ?_; rintro e v2 ⟨rfl, hv⟩; obtain rfl := hv.symm)
            | (go_at_call 94; refine (BO.out _).mono ?_; rintro e v3 ⟨rfl, hb3⟩; have hb3' := t2 hS hb3)
            | (go_at_call 95; refine (BY.out _).mono ?_; rintro e v4 ⟨rfl, hb4⟩; have hb4' := t2 hb3' hb4))
        have B4 : Hid (Below wr.heap.size wr v4) := hb4'
        have C4 : Hid (RCe v4 Z n y false) := CR.out.below B4.out
        have X4 : Hid (Below Z w v4) := BR.out.trans (B4.out.mono (by have := CR.out.lt; omega))
        clear hb3 hb3' hb4 hb4' hS c1 c2 c3 cf
        have c1 := C4.out.c1
        have c2 := C4.out.c2
        have c3 := C4.out.c3
        have cf := fun i => C4.out.fr i
        cases D
        · have HNY : Hid (newestK s.B (k + 1) = y) := HN2.out
          go_wp2_with fail
          exact ⟨⟨k + 1, by omega, by go_num, by rw [HNY.out]; exact C4.out, X4.out⟩, by simp [intOf]; omega⟩
        · have HNY : Hid (newestK s.B (k + 1) = x) := HN2.out
          go_wp2_with (first
            | (go_at_call_of 93 (Value.string (T.extract 4 8)); refine (HV1.out _).mono ?_; rintro e v1 ⟨rfl, hv⟩; obtain rfl := hv.symm)
            | (go_at_call_of 93 (Value.string (T.extract 8 12)); refine (HV2.out _).mono ?_; rintro e v2 ⟨rfl, hv⟩; obtain rfl := hv.symm))
          refine ⟨⟨k + 1, by omega, by go_num, ?_, ?_⟩, by simp [intOf]; omega⟩
          · rw [HNY.out]; exact C4.out.put x
          · exact ((X4.out.setCell (Nat.le_refl _) _).setCell (Nat.le_refl _) _).setCell (Nat.le_refl _) _
    · have HK : Hid (k = 2) := (show k = 2 by omega)
      go_wp2_with fail
      go_ret
      refine ⟨⟨by rw [← HZ.out]; rfl, ?_⟩, by rw [← HZ.out]; exact BR.out⟩
      rw [← HZ.out]
      have := CR.out
      rw [HK.out] at this
      exact this
end Go.Proofs.YtdkfjjamfefcaabDoor
