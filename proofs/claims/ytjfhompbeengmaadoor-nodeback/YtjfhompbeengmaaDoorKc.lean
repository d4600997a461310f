/-
  Texts in one: CeP CeN CeO CeQ CeL CeK.
-/
import Derived.Test.YtjfhompbeengmaaDoorKb
import Derived.Deep.DeepCutAuto
import Derived.Deep.CutRange
import Derived.Test.YtjfhompbeengmaaDoorCeH
import Derived.Test.YtjfhompbeengmaaDoorCeG
import Derived.Test.YtjfhompbeengmaaDoorKa
namespace Go.Proofs.YtjfhompbeengmaaDoor
open Go.RowKit

theorem Num3.chg {w w' : World} {q b : Nat} {a c d : Int} (h : Num3 w q a c d) (hb : Chg b w w') (hn : q ≠ b) : Num3 w' q a c d := by
  unfold Num3; rw [hb.block q h.lt hn]; exact h
/-- behind one write. -/
def By.wrN (s : By) (a : Nat) (v : UInt8) : By := if s.ok then s.wr a v else s.off
theorem write_any (b p : Nat) (hp : p < 64) (v : UInt8) (s : By) (w : World) (S : Byt w b s) (hL : s.left ≤ 9223372036854775807) :
    Calls Tryd.prog 59 #[.pointer (some ⟨b, 0, none⟩), .int .i64 p, u8v v] w fun e w' => e = .returned (.bool s.ok) ∧ Byt w' b (s.wrN p v) ∧ Chg b w w' := by
  unfold By.wrN
  cases h : s.ok
  · exact write_no b p v s w S h
  · exact write_ok b p hp v s w S h hL
theorem wr_left (s : By) (a : Nat) (v : UInt8) (n : Nat) (h : s.left ≤ n) : (s.wr a v).left ≤ n := by
  unfold By.wr
  simp only
  split <;> omega
theorem wrs_cons (s : By) (a : Nat) (v : UInt8) (r : List (Nat × UInt8)) : wrs s ((a, v) :: r) = if s.ok then wrs (s.wr a v) r else (s.off, false) := rfl
theorem seqW_drop (L : List UInt8) (a j : Nat) (h : j < L.length) : seqW (a + j) (L.drop j) = (a + j, L[j]) :: seqW (a + (j + 1)) (L.drop (j + 1)) := by
  rw [List.drop_eq_getElem_cons h, seqW, Nat.add_assoc]
/-- what is left to be written behind j bytes. -/
def restW (s : By) (x : Nm) (p j : Nat) : By × Bool := wrs s (seqW (p + j) ((img x).drop j) ++ [(p + 16, 165)])
theorem restW_next (s : By) (x : Nm) (p j : Nat) (h : j < (img x).length) : restW s x p j = if s.ok then restW (s.wr (p + j) (img x)[j]) x p (j + 1) else (s.off, false) := by
  unfold restW
  rw [seqW_drop _ _ _ h]
  rfl
theorem restW_end (s : By) (x : Nm) (p : Nat) : restW s x p 16 = if s.ok then (s.wr (p + 16) 165, true) else (s.off, false) := by
  unfold restW
  rw [List.drop_of_length_le (by rw [img_len]; omega)]
  rfl
theorem putS_pre0 (s : By) (x : Nm) (h : s.B.getD (20 * (x.n % 2) + 16) 0 = 0) : putS s x = restW s x (20 * (x.n % 2)) 0 := by
  unfold putS putW preW restW
  rw [if_pos h]
  rfl
theorem putS_pre1 (s : By) (x : Nm) (h : s.B.getD (20 * (x.n % 2) + 16) 0 ≠ 0) : putS s x = if s.ok then restW (s.wr (20 * (x.n % 2) + 16) 0) x (20 * (x.n % 2)) 0 else (s.off, false) := by
  unfold putS putW preW restW
  rw [if_neg h]
  rfl
set_option maxRecDepth 100000 in
set_option maxHeartbeats 4000000 in
theorem bput_any (b : Nat) (x : Nm) (h1 : x.n < 4294967296) (h2 : x.e < 4294967296) (h3 : x.l < 4294967296) (s : By) (w : World) (S : Byt w b s) (hL : s.left ≤ 9223372036854775807) :
    Calls Tryd.prog 38 #[.pointer (some ⟨b, 0, none⟩), nmV x] w fun e w' => e = .returned (.bool (putS s x).2) ∧ Byt w' b (putS s x).1 ∧ Chg b w w' := by
  obtain ⟨R, hR⟩ : ∃ R, R = putS s x := ⟨_, rfl⟩
  have P0 : Hid (s.B.getD (20 * (x.n % 2) + 16) 0 = 0 → R = restW s x (20 * (x.n % 2)) 0) := fun h => by rw [hR, putS_pre0 s x h]
  have P1 : Hid (s.B.getD (20 * (x.n % 2) + 16) 0 ≠ 0 → R = if s.ok then restW (s.wr (20 * (x.n % 2) + 16) 0) x (20 * (x.n % 2)) 0 else (s.off, false)) := fun h => by rw [hR, putS_pre1 s x h]
  have SL : Hid (∀ w, Calls Tryd.prog 58 #[.int .i64 x.n] w fun e w' => e = .returned (.int .i64 ((x.n % 2 : Nat) : Int)) ∧ w' = w) := fun w => slotOf_any x.n w
  rw [← hR]
  clear hR
  have hr2 : x.n % 2 < 2 := by omega
  generalize x.n % 2 = r at *
  obtain ⟨p, hp⟩ : ∃ p, p = 20 * r := ⟨_, rfl⟩
  rw [← hp] at P0 P1
  have hp20 : p + 17 ≤ 64 := by omega
  have hpv : (r : Int) * 20 = (p : Int) := by omega
  have HS : Hid (Byt w b s) := S
  have HL : Hid (s.left ≤ 9223372036854775807) := hL
  have IM : Hid (∀ w, Calls Tryd.prog 60 #[nmV x] w fun e w' => e = .returned (.agg (arrV (img x))) ∧ Below w.heap.size w w') := fun w => image_any x h1 h2 h3 w
  clear S hL hp
  unfold nmV at *
  go_enter Tryd.func38, Tryd.ntmps38
  go_wp2_with fail
  refine (SL.out _).mono ?_
  rintro e w1 ⟨rfl, hw1⟩
  have N1 : Hid (Num3 w1 w.heap.size x.n x.e x.l) := by rw [hw1]; exact heap_alloc_new w _
  have B1 : Hid (Below w.heap.size w w1) := by rw [hw1]; exact aB _ _
  have S1 : Hid (Byt w1 b s) := HS.out.below B1.out
  have hbz : b ≠ w.heap.size := by have := HS.out.lt; omega
  clear hw1
  obtain ⟨Z, hZ⟩ : ∃ Z, Z = w.heap.size := ⟨_, rfl⟩
  have HZ : Hid (Z = w.heap.size) := hZ
  rw [← hZ] at N1 hbz ⊢
  clear hZ
  have hmk := S1.out.at' (p + 16) (by omega)
  unfold u8v at hmk
  have i16 : (p : Int) + 16 < 64 := by omega
  clear hmk
  go_upto_region 2 with fail
  go_cut [26] (fun t wx => ∃ st : By, ((t = .bool true ∧ R = (st, false)) ∨ (t = .bool false ∧ R = restW st x p 0 ∧ st.left ≤ 9223372036854775807)) ∧ Byt wx b st ∧ Num3 wx Z x.n x.e x.l ∧ Chg b w wx)
  case first =>
    have hmk := S1.out.at' (p + 16) (by omega)
    unfold u8v at hmk
    by_cases hm : s.B.getD (p + 16) 0 = 0
    · have HR : Hid (R = restW s x p 0) := P0.out hm
      rw [hm] at hmk
      have hm0 : w1.cell? ⟨b, p + 16, none⟩ = some (.int .u8 0) := hmk
      clear hmk
      go_wp2_with fail
      go_meet
      case rel => exact ⟨s, .inr ⟨rfl, HR.out, HL.out⟩, S1.out, N1.out, Chg.of B1.out⟩
    · have HR : Hid (R = if s.ok then restW (s.wr (p + 16) 0) x p 0 else (s.off, false)) := P1.out hm
      have hne : (((s.B.getD (p + 16) 0).toNat : Int) != 0) = true := by
        rw [bne_iff_ne]
        intro e
        exact hm (UInt8.toNat_inj.1 (by show _ = 0; omega))
      generalize s.B.getD (p + 16) 0 = m at *
      go_wp2_with fail
      refine (write_any b (p + 16) (by omega) 0 s w1 S1.out HL.out).mono ?_
      rintro e w2 ⟨rfl, s2, c2⟩
      have S2 : Hid (Byt w2 b (s.wrN (p + 16) 0)) := s2
      have C2 : Hid (Chg b w w2) := (Chg.of B1.out).trans c2
      have N2 : Hid (Num3 w2 Z x.n x.e x.l) := N1.out.chg c2 (fun e => hbz e.symm)
      clear s2 c2 hmk
      cases hok : s.ok
      · have HR2 : Hid (R = (s.off, false)) := by rw [HR.out, hok]; rfl
        have HW : Hid (s.wrN (p + 16) 0 = s.off) := by unfold By.wrN; rw [hok]; rfl
        go_wp2_with fail
        go_meet
        case rel => exact ⟨s.off, .inl ⟨rfl, HR2.out⟩, by rw [← HW.out]; exact S2.out, N2.out, C2.out⟩
      · have HR2 : Hid (R = restW (s.wr (p + 16) 0) x p 0) := by rw [HR.out, hok]; rfl
        have HW : Hid (s.wrN (p + 16) 0 = s.wr (p + 16) 0) := by unfold By.wrN; rw [hok]; rfl
        go_wp2_with fail
        go_meet
        case rel => exact ⟨s.wr (p + 16) 0, .inr ⟨rfl, HR2.out, wr_left _ _ _ _ HL.out⟩, by rw [← HW.out]; exact S2.out, N2.out, C2.out⟩
  case rest =>
    obtain ⟨st, hor, hs2, hn2, hc2⟩ := hcut
    have S2 : Hid (Byt wc b st) := hs2
    have N2 : Hid (Num3 wc Z x.n x.e x.l) := hn2
    have C2 : Hid (Chg b w wc) := hc2
    clear hs2 hn2 hc2
    rcases hor with ⟨rfl, hR⟩ | ⟨rfl, hR, hle⟩
    · have HR : Hid (R = (st, false)) := hR
      clear hR
      go_wp2_with fail
      go_ret
      exact ⟨by rw [HR.out]; rfl, by rw [HR.out]; exact S2.out, C2.out⟩
    · have HR : Hid (R = restW st x p 0) := hR
      have HLE : Hid (st.left ≤ 9223372036854775807) := hle
      clear hR hle
      have n0 := N2.out.c0
      have n1 := N2.out.c1
      have n2 := N2.out.c2
      go_wp2_with fail
      refine (IM.out _).mono ?_
      rintro e w3 ⟨rfl, hb3⟩
      have S3 : Hid (Byt w3 b st) := S2.out.below hb3
      have C3 : Hid (Chg b w w3) := C2.out.then hb3
      have HIX : Hid (∀ k : Nat, (hk : k < (img x).length) → ∀ w, (Instr.index 122 (.agg (arrV (img x))) (.int .i64 k)).run Tryd.prog w = .ok (u8v (img x)[k]) w) := fun k hk w => arrV_index Tryd.underlying122 (img x) k (img_len x) hk w
      clear hb3 n0 n1 n2
      generalize arrV (img x) = arr at *
      go_wp2_with fail
      go_loopw [29] (fun t wr => ∃ j : Nat, j ≤ 16 ∧ t = .int .i64 j ∧ ∃ sj : By, Byt wr b sj ∧ R = restW sj x p j ∧ sj.left ≤ 9223372036854775807 ∧ Chg b w wr) (fun t _ => 16 - (intOf t).toNat)
      case atStart => exact ⟨0, by omega, rfl, st, S3.out, HR.out, HLE.out, C3.out⟩
      case round =>
        obtain ⟨j, hj, rfl, sj, hsj, hRj, hlj, hcj⟩ := hrel
        have SJ : Hid (Byt wr b sj) := hsj
        have RJ : Hid (R = restW sj x p j) := hRj
        have LJ : Hid (sj.left ≤ 9223372036854775807) := hlj
        have CJ : Hid (Chg b w wr) := hcj
        clear hsj hRj hlj hcj
        by_cases hlt : j < 16
        · have hix := HIX.out j (by rw [img_len]; exact hlt) wr
          have RN : Hid (R = if sj.ok then restW (sj.wr (p + j) ((img x)[j]'(by rw [img_len]; exact hlt))) x p (j + 1) else (sj.off, false)) := by
            rw [RJ.out]; exact restW_next sj x p j _
          generalize (img x)[j]'(by rw [img_len]; exact hlt) = v at *
          have WA : Hid (Calls Tryd.prog 59 #[.pointer (some ⟨b, 0, none⟩), .int .i64 (p + j : Nat), u8v v] wr fun e w' => e = .returned (.bool sj.ok) ∧ Byt w' b (sj.wrN (p + j) v) ∧ Chg b wr w') := write_any b (p + j) (by omega) v sj wr SJ.out LJ.out
          rw [Int.natCast_add] at WA
          unfold u8v at hix WA
          go_wp2_with fail
          refine WA.out.mono ?_
          rintro e w4 ⟨rfl, s4, c4⟩
          have C4 : Hid (Chg b w w4) := CJ.out.trans c4
          have S4 : Hid (Byt w4 b (sj.wrN (p + j) v)) := s4
          clear s4 c4
          cases hok : sj.ok
          · have HR2 : Hid (R = (sj.off, false)) := by rw [RN.out, hok]; rfl
            have HW : Hid (sj.wrN (p + j) v = sj.off) := by unfold By.wrN; rw [hok]; rfl
            go_wp2_with fail
            go_ret
            exact ⟨by rw [HR2.out]; rfl, by rw [HR2.out, ← HW.out]; exact S4.out, C4.out⟩
          · have HR2 : Hid (R = restW (sj.wr (p + j) v) x p (j + 1)) := by rw [RN.out, hok]; rfl
            have HW : Hid (sj.wrN (p + j) v = sj.wr (p + j) v) := by unfold By.wrN; rw [hok]; rfl
            go_wp2_with fail
            refine ⟨⟨j + 1, by omega, by go_num, sj.wr (p + j) v, by rw [← HW.out]; exact S4.out, HR2.out, wr_left _ _ _ _ LJ.out, C4.out⟩, by simp [intOf]; omega⟩
        · have hj16 : j = 16 := by omega
          have RE : Hid (R = if sj.ok then (sj.wr (p + 16) 165, true) else (sj.off, false)) := by rw [RJ.out, hj16]; exact restW_end sj x p
          have WA : Hid (Calls Tryd.prog 59 #[.pointer (some ⟨b, 0, none⟩), .int .i64 (p + 16 : Nat), u8v 165] wr fun e w' => e = .returned (.bool sj.ok) ∧ Byt w' b (sj.wrN (p + 16) 165) ∧ Chg b wr w') := write_any b (p + 16) (by omega) 165 sj wr SJ.out LJ.out
          rw [Int.natCast_add] at WA
          clear hj16
          go_wp2_with fail
          refine WA.out.mono ?_
          rintro e w4 ⟨rfl, s4, c4⟩
          have C4 : Hid (Chg b w w4) := CJ.out.trans c4
          have S4 : Hid (Byt w4 b (sj.wrN (p + 16) 165)) := s4
          clear s4 c4
          go_wp2_with fail
          go_ret
          refine ⟨?_, ?_, C4.out⟩
          · rw [RE.out]; cases sj.ok <;> rfl
          · have h4 := S4.out
            unfold By.wrN at h4
            rw [RE.out]
            cases hok : sj.ok <;> rw [hok] at h4 <;> exact h4
end Go.Proofs.YtjfhompbeengmaaDoor

namespace Go.Proofs.YtjfhompbeengmaaDoor
open Go.RowKit

theorem hold_any (b k : Nat) (hk : k < 2) (s : By) (w : World) (S : Byt w b s) :
    Calls Tryd.prog 74 #[.pointer (some ⟨b, 0, none⟩), .int .i64 k] w fun e w' => (∃ x : Nm, e = .returned (.tuple #[nmV x, .bool (isHeld s.B k)]) ∧ (isHeld s.B k = true → x = slotN s.B k)) ∧ Below w.heap.size w w' := by
  have h : k = 0 ∨ k = 1 := by omega
  rcases h with rfl | rfl
  · exact hold_0 b s w S
  · exact hold_1 b s w S
/-- a round of newest. -/
theorem newestK_next (B : List UInt8) (k : Nat) : newestK B (k + 1) = if isHeld B k = true ∧ (newestK B k).n < (slotN B k).n then slotN B k else newestK B k := rfl
set_option maxRecDepth 100000 in
set_option maxHeartbeats 4000000 in
theorem newest_any (b : Nat) (s : By) (w : World) (S : Byt w b s) :
    Calls Tryd.prog 57 #[.pointer (some ⟨b, 0, none⟩)] w fun e w' => e = .returned (nmV (newest s.B)) ∧ Below w.heap.size w w' := by
  have HS : Hid (Byt w b s) := S
  clear S
  go_enter Tryd.func57, Tryd.ntmps57
  go_wp2_with fail
  have N0 : Hid (Num3 ((w.alloc (.cells #[.int .i64 0, .int .i64 0, .int .i64 0] 98)).alloc (.cells #[.int .i64 0, .int .i64 0, .int .i64 0] 98)) (w.heap.size + 1) 0 0 0) := heap_alloc2_new w _ _
  have R0 : Hid (Num3 ((w.alloc (.cells #[.int .i64 0, .int .i64 0, .int .i64 0] 98)).alloc (.cells #[.int .i64 0, .int .i64 0, .int .i64 0] 98)) w.heap.size 0 0 0) := by
    show Num3 _ _ _ _ _
    unfold Num3
    rw [heap_alloc_old _ _ (by simp), heap_alloc_new]
  have B0 : Hid (Below w.heap.size w ((w.alloc (.cells #[.int .i64 0, .int .i64 0, .int .i64 0] 98)).alloc (.cells #[.int .i64 0, .int .i64 0, .int .i64 0] 98))) := t2 (aB _ _) (aB _ _)
  generalize (w.alloc (.cells #[.int .i64 0, .int .i64 0, .int .i64 0] 98)).alloc (.cells #[.int .i64 0, .int .i64 0, .int .i64 0] 98) = w0 at *
  obtain ⟨Z, hZ⟩ : ∃ Z, Z = w.heap.size := ⟨_, rfl⟩
  have HZ : Hid (Z = w.heap.size) := hZ
  rw [← hZ] at N0 R0 ⊢
  clear hZ
  go_loopw [7] (fun t wr => ∃ k : Nat, k ≤ 2 ∧ t = .int .i64 k ∧ Num3 wr (Z + 1) (newestK s.B k).n (newestK s.B k).e (newestK s.B k).l ∧ Num3 wr Z 0 0 0 ∧ Below Z w wr) (fun t _ => 2 - (intOf t).toNat)
  case atStart => exact ⟨0, by omega, rfl, N0.out, R0.out, by rw [HZ.out]; exact B0.out⟩
  case round =>
    obtain ⟨k, hk, rfl, hn, hr, hb⟩ := hrel
    have HN : Hid (Num3 wr (Z + 1) (newestK s.B k).n (newestK s.B k).e (newestK s.B k).l) := hn
    have HR : Hid (Num3 wr Z 0 0 0) := hr
    have HB : Hid (Below Z w wr) := hb
    clear hn hr hb
    by_cases hlt : k < 2
    · go_wp2_with fail
      refine (hold_any b k hlt s wr (HS.out.below (by rw [← HZ.out]; exact HB.out))).mono ?_
      rintro e w1 ⟨⟨x, rfl, hx⟩, hb1⟩
      have HX : Hid (isHeld s.B k = true → x = slotN s.B k) := hx
      have N1 : Hid (Num3 w1 (Z + 1) (newestK s.B k).n (newestK s.B k).e (newestK s.B k).l) := HN.out.below hb1
      have R1 : Hid (Num3 w1 Z 0 0 0) := HR.out.below hb1
      have B1 : Hid (Below Z w w1) := HB.out.trans (hb1.mono (by have := HR.out.lt; omega))
      have HE : Hid (newestK s.B (k + 1) = if isHeld s.B k = true ∧ (newestK s.B k).n < (slotN s.B k).n then slotN s.B k else newestK s.B k) := newestK_next _ _
      clear hx hb1
      have hz1 := N1.out.lt
      have n0 := N1.out.c0
      have n1 := N1.out.c1
      have n2 := N1.out.c2
      have nf := fun i => N1.out.fr i
      unfold nmV
      generalize hh : isHeld s.B k = h at *
      generalize hy : newestK s.B k = y at *
      cases h
      · have HY : Hid (newestK s.B (k + 1) = y) := by show _ = _; rw [HE.out, if_neg (by simp)]
        go_wp2_with fail
        refine ⟨⟨k + 1, by omega, by go_num, ?_, ?_, ?_⟩, by simp [intOf]; omega⟩
        · rw [HY.out]; exact N1.out.below (aB _ _)
        · exact R1.out.below (aB _ _)
        · exact B1.out.alloc (by have := HR.out.lt; have := R1.out.lt; omega) _
      · obtain rfl := HX.out rfl
        by_cases hl : y.n < (slotN s.B k).n
        · have HY : Hid (newestK s.B (k + 1) = slotN s.B k) := by show _ = _; rw [HE.out, if_pos ⟨rfl, hl⟩]
          generalize slotN s.B k = x at *
          have hi : (y.n : Int) < (x.n : Int) := by omega
          go_wp2_with fail
          refine ⟨⟨k + 1, by omega, by go_num, ?_, ?_, ?_⟩, by simp [intOf]; omega⟩
          · rw [HY.out]; exact (N1.out.put _ _ _).below (aB _ _)
          · exact (R1.out.chg (((Chg.set (Z + 1) 0 _ _).trans (Chg.set (Z + 1) 1 _ _)).trans (Chg.set (Z + 1) 2 _ _)) (by omega)).below (aB _ _)
          · refine (((B1.out.setCell (by show Z ≤ Z + 1; omega) _).setCell (by show Z ≤ Z + 1; omega) _).setCell (by show Z ≤ Z + 1; omega) _).alloc ?_ _
            have := HR.out.lt; have := R1.out.lt; simp; omega
        · have HY : Hid (newestK s.B (k + 1) = y) := by show _ = _; rw [HE.out, if_neg (by simp [hl])]
          generalize slotN s.B k = x at *
          have hi : ¬ (y.n : Int) < (x.n : Int) := by omega
          go_wp2_with fail
          refine ⟨⟨k + 1, by omega, by go_num, ?_, ?_, ?_⟩, by simp [intOf]; omega⟩
          · rw [HY.out]; exact N1.out.below (aB _ _)
          · exact R1.out.below (aB _ _)
          · exact B1.out.alloc (by have := HR.out.lt; have := R1.out.lt; omega) _
    · have HK : Hid (k = 2) := (show k = 2 by omega)
      have r0 := HR.out.c0
      have r1 := HR.out.c1
      have r2 := HR.out.c2
      have rf := fun i => HR.out.fr i
      have n0 := HN.out.c0
      have n1 := HN.out.c1
      have n2 := HN.out.c2
      generalize hy : newestK s.B k = y at *
      have HY : Hid (newest s.B = y) := by
        show newestK s.B 2 = y
        rw [← HK.out]; exact hy
      clear hy
      go_wp2_with fail
      refine bodyPost_ret (v := nmV y) (by simp [results, Tryd.results57, go_sem, nmV, r0, r1, r2]) rfl ⟨by rw [HY.out], ?_⟩
      rw [← HZ.out]
      exact ((HB.out.setCell (Nat.le_refl _) _).setCell (Nat.le_refl _) _).setCell (Nat.le_refl _) _
/-- a cell in memory. -/
structure Cel (w : World) (c b : Nat) (off : Bool) : Prop where
  c0 : w.cell? ⟨c, 0, none⟩ = some (.pointer (some ⟨b, 0, none⟩))
  c1 : w.cell? ⟨c, 1, none⟩ = some (.bool off)
  f1 : w.frozen? ⟨c, 1, none⟩ = false
theorem Cel.lt {w : World} {c b : Nat} {off : Bool} (h : Cel w c b off) : c < w.heap.size := tlt h.c0
theorem Cel.below {w w' : World} {c b : Nat} {off : Bool} (h : Cel w c b off) (hb : Below w.heap.size w w') : Cel w' c b off := ⟨tk hb h.c0, tk hb h.c1, by rw [hb.frozen (p := ⟨c, 1, none⟩) h.lt]; exact h.f1⟩
theorem Cel.chg {w w' : World} {c b d : Nat} {off : Bool} (h : Cel w c b off) (hb : Chg d w w') (hn : c ≠ d) : Cel w' c b off := ⟨hb.keeps hn h.c0, hb.keeps hn h.c1, by rw [World.frozen?_of_block (w := w) (hb.block c h.lt hn)]; exact h.f1⟩
theorem Cel.kill {w : World} {c b : Nat} {off : Bool} (h : Cel w c b off) (v : Bool) : Cel (w.setCell ⟨c, 1, none⟩ (.bool v)) c b v := ⟨by rw [World.cell?_setCell_other _ _ _ _ (by simp)]; exact h.c0, World.cell?_setCell_same _ _ _ (u := .bool off) h.c1, by rw [World.frozen?_setCell]; exact h.f1⟩
set_option maxRecDepth 100000 in
set_option maxHeartbeats 2000000 in
theorem there_any (c b : Nat) (off : Bool) (s : By) (w : World) (C : Cel w c b off) (S : Byt w b s) :
    Calls Tryd.prog 36 #[.pointer (some ⟨c, 0, none⟩)] w fun e w' => e = .returned (nmV (newest s.B)) ∧ Below w.heap.size w w' := by
  have HS : Hid (Byt w b s) := S
  have HC : Hid (Cel w c b off) := C
  clear S C
  go_enter Tryd.func36, Tryd.ntmps36
  have N0 : Hid (Num3 (w.alloc (.cells #[.int .i64 0, .int .i64 0, .int .i64 0] 98)) w.heap.size 0 0 0) := heap_alloc_new w _
  have c0 := (HC.out.below (aB w (.cells #[.int .i64 0, .int .i64 0, .int .i64 0] 98))).c0
  go_wp2_with fail
  refine (newest_any b s _ (HS.out.below (aB _ _))).mono ?_
  rintro e w1 ⟨rfl, hb1⟩
  have N1 : Hid (Num3 w1 w.heap.size 0 0 0) := N0.out.below hb1
  have B1 : Hid (Below w.heap.size w w1) := t2 (aB _ _) hb1
  clear hb1 c0 N0
  have n0 := N1.out.c0
  have n1 := N1.out.c1
  have n2 := N1.out.c2
  have nf := fun i => N1.out.fr i
  obtain ⟨y, hy⟩ : ∃ y, newest s.B = y := ⟨_, rfl⟩
  have HY : Hid (newest s.B = y) := hy
  rw [hy]
  clear hy
  unfold nmV
  obtain ⟨Z, hZ⟩ : ∃ Z, Z = w.heap.size := ⟨_, rfl⟩
  rw [← hZ] at n0 n1 n2 nf ⊢
  have HZ : Hid (Z = w.heap.size) := hZ
  clear hZ
  go_wp2_with fail
  refine bodyPost_ret (v := nmV y) (by simp [results, Tryd.results36, go_sem, nmV, n0, n1, n2]) rfl ⟨by rw [HY.out], ?_⟩
  rw [HZ.out]
  exact ((B1.out.setCell (Nat.le_refl _) _).setCell (Nat.le_refl _) _).setCell (Nat.le_refl _) _
theorem nm_field (a b c : Int) (w : World) : (Instr.field 98 (.agg #[.int .i64 a, .int .i64 b, .int .i64 c]) 1).run Tryd.prog w = .ok (.int .i64 b) w ∧ (Instr.field 98 (.agg #[.int .i64 a, .int .i64 b, .int .i64 c]) 2).run Tryd.prog w = .ok (.int .i64 c) w := ⟨by kernel_rfl, by kernel_rfl⟩
set_option maxRecDepth 100000 in
set_option maxHeartbeats 2000000 in
theorem epoch_any (c b : Nat) (off : Bool) (s : By) (w : World) (C : Cel w c b off) (S : Byt w b s) :
    Calls Tryd.prog 19 #[.pointer (some ⟨c, 0, none⟩)] w fun e w' => e = .returned (.int .i64 (newest s.B).e) ∧ Below w.heap.size w w' := by
  have HT : Hid (Calls Tryd.prog 36 #[.pointer (some ⟨c, 0, none⟩)] w fun e w' => e = .returned (nmV (newest s.B)) ∧ Below w.heap.size w w') := there_any c b off s w C S
  clear C S
  generalize newest s.B = y at *
  unfold nmV at HT
  go_enter Tryd.func19, Tryd.ntmps19
  go_wp2_with fail
  refine HT.out.mono ?_
  rintro e w1 ⟨rfl, hb1⟩
  have B1 : Hid (Below w.heap.size w w1) := hb1
  clear hb1
  obtain ⟨f1, f2⟩ := nm_field y.n y.e y.l w1
  go_wp2_with fail
  go_ret
  exact ⟨rfl, B1.out⟩
set_option maxRecDepth 100000 in
set_option maxHeartbeats 2000000 in
theorem life_any (c b : Nat) (off : Bool) (s : By) (w : World) (C : Cel w c b off) (S : Byt w b s) :
    Calls Tryd.prog 20 #[.pointer (some ⟨c, 0, none⟩)] w fun e w' => e = .returned (.int .i64 (newest s.B).l) ∧ Below w.heap.size w w' := by
  have HT : Hid (Calls Tryd.prog 36 #[.pointer (some ⟨c, 0, none⟩)] w fun e w' => e = .returned (nmV (newest s.B)) ∧ Below w.heap.size w w') := there_any c b off s w C S
  clear C S
  generalize newest s.B = y at *
  unfold nmV at HT
  go_enter Tryd.func20, Tryd.ntmps20
  go_wp2_with fail
  refine HT.out.mono ?_
  rintro e w1 ⟨rfl, hb1⟩
  have B1 : Hid (Below w.heap.size w w1) := hb1
  clear hb1
  obtain ⟨f1, f2⟩ := nm_field y.n y.e y.l w1
  go_wp2_with fail
  go_ret
  exact ⟨rfl, B1.out⟩
end Go.Proofs.YtjfhompbeengmaaDoor

namespace Go.Proofs.YtjfhompbeengmaaDoor
open Go.RowKit

/-- five sentinels. -/
structure Se5 (w : World) (s : Nat → Addr) : Prop where
  c1 : w.cell? ⟨0, 0, none⟩ = some (.iface 161 (.pointer (some (s 1))))
  c2 : w.cell? ⟨1, 0, none⟩ = some (.iface 161 (.pointer (some (s 2))))
  c5 : w.cell? ⟨5, 0, none⟩ = some (.iface 161 (.pointer (some (s 5))))
  c6 : w.cell? ⟨3, 0, none⟩ = some (.iface 161 (.pointer (some (s 6))))
  c9 : w.cell? ⟨4, 0, none⟩ = some (.iface 161 (.pointer (some (s 9))))
theorem Se5.below {w w' : World} {s : Nat → Addr} (S : Se5 w s) (hb : Below w.heap.size w w') : Se5 w' s := ⟨tk hb S.c1, tk hb S.c2, tk hb S.c5, tk hb S.c6, tk hb S.c9⟩
def zero64 : List UInt8 := List.replicate 64 0
def new0 : By := ⟨zero64, true, false, 0⟩
theorem wpList_build_to {P : Program} {ops : Array Oper} {rest : List Oper} {o : Oper} {a : Act} {w : World} {Q : Exit → Act → World → Prop} (hg : o.guard = none) (t : TypeId) (parts : Array (Nat × Operand)) (ho : o.op = .build t parts)
    (cs : Array Value) (hf : P.built t (parts.map fun (i, x) => (i, a.eval x)).toList = some cs) (h : wpList P ops Q rest (a.put o.dst (.agg cs)) w) : wpList P ops Q (o :: rest) a w :=
  wpList_build hg t parts ho (by rw [hf]; rfl) (by rw [hf]; exact h)
set_option maxRecDepth 100000 in
theorem built_bytes : Tryd.prog.built 55 [(1, .bool true)] = some (byArr new0) := by kernel_rfl
set_option maxRecDepth 100000 in
set_option maxHeartbeats 2000000 in
theorem newBytes_any (w : World) : Calls Tryd.prog 5 #[] w fun e w' => (e = .returned (.pointer (some ⟨w.heap.size, 0, none⟩)) ∧ Byt w' w.heap.size new0) ∧ Below w.heap.size w w' := by
  obtain ⟨cs, hcs⟩ : ∃ cs, cs = byArr new0 := ⟨_, rfl⟩
  have HC : Hid (cs = byArr new0) := hcs
  have hbu : Tryd.prog.built 55 [(1, .bool true)] = some cs := by rw [hcs]; exact built_bytes
  have hsz : cs.size = 67 := by rw [hcs]; rfl
  clear hcs
  go_enter Tryd.func5, Tryd.ntmps5
  go_wp2_with (first | refine wpList_build_to rfl 55 _ rfl cs (by simpa [Act.eval] using hbu) ?_)
  go_ret
  refine ⟨⟨rfl, ?_⟩, aB _ _⟩
  rw [HC.out]
  exact ⟨heap_alloc_new _ _, rfl⟩
theorem open_ok (b : Nat) (s : By) (w : World) (S : Byt w b s) (h : s.on = true) :
    Calls Tryd.prog 17 #[.pointer (some ⟨b, 0, none⟩)] w fun e w' => (e = .returned (.tuple #[.pointer (some ⟨w.heap.size, 0, none⟩), .nilIface]) ∧ Cel w' w.heap.size b false) ∧ Below w.heap.size w w' := by
  have h0 := S.on
  rw [h] at h0
  clear S h
  go_enter Tryd.func17, Tryd.ntmps17
  go_wp2_with fail
  go_ret2
  exact ⟨⟨rfl, (nw _ _ _ _).trans rfl, (nw _ _ _ _).trans rfl, frozen_of_row _ _ _ _ _ (heap_alloc_new _ _)⟩, aB _ _⟩
theorem open_off (b : Nat) (s : By) (se : Nat → Addr) (w : World) (S : Byt w b s) (E : Se5 w se) (h : s.on = false) :
    Calls Tryd.prog 17 #[.pointer (some ⟨b, 0, none⟩)] w fun e w' => e = .returned (.tuple #[.pointer none, terr se 7]) ∧ Below w.heap.size w w' := by
  have h0 := S.on
  rw [h] at h0
  have c6 := E.c6
  clear S h E
  go_enter Tryd.func17, Tryd.ntmps17
  go_wp2_with fail
  go_region
  go_wp2_with fail
  go_ret2
  exact ⟨rfl, (Below.refl _ _).drew⟩
theorem open_nil (se : Nat → Addr) (w : World) (E : Se5 w se) :
    Calls Tryd.prog 17 #[.pointer none] w fun e w' => e = .returned (.tuple #[.pointer none, terr se 3]) ∧ Below w.heap.size w w' := by
  have c2 := E.c2
  clear E
  go_enter Tryd.func17, Tryd.ntmps17
  go_wp2_with fail
  go_region
  go_wp2_with fail
  go_ret2
  exact ⟨rfl, (Below.refl _ _).drew⟩
/-- a number from 0 to MaxEpoch. -/
def isEp (n : Int) : Bool := decide (0 ≤ n) && decide (n ≤ 1073741824)
theorem isEpoch_any (n : Int) (w : World) : Calls Tryd.prog 37 #[.int .i64 n] w fun e w' => e = .returned (.bool (isEp n)) ∧ w' = w := by
  by_cases h : 0 ≤ n
  · have HE : Hid (isEp n = decide (n ≤ 1073741824)) := by unfold isEp; rw [decide_eq_true h]; exact rfl
    go_enter Tryd.func37, Tryd.ntmps37
    go_wp2_with fail
    go_ret
    exact ⟨by rw [HE.out]; rfl, rfl⟩
  · have HE : Hid (isEp n = false) := by unfold isEp; rw [decide_eq_false h]; exact rfl
    go_enter Tryd.func37, Tryd.ntmps37
    go_wp2_with fail
    go_ret
    exact ⟨by rw [HE.out]; rfl, rfl⟩
end Go.Proofs.YtjfhompbeengmaaDoor

namespace Go.Proofs.YtjfhompbeengmaaDoor
open Go.RowKit

def badEp (ep li : Int) : Bool := !isEp ep || !isEp li
def oldEp (s : By) (ep li : Int) : Bool := decide (ep < (newest s.B).e) || decide (li < (newest s.B).l)
def nextNm (s : By) (ep li : Int) : Nm := ⟨(newest s.B).n + 1, ep.toNat, li.toNat⟩
/-- Put's error, what it leaves of the bytes, and whether the cell is off behind it. -/
def putE (off : Bool) (s : By) (ep li : Int) : Nat × By × Bool :=
  if off then (7, s, true)
  else if badEp ep li then (2, s, false)
  else if oldEp s ep li then (10, s, false)
  else if (newest s.B).n = 4294967295 then (6, s, false)
  else if (putS s (nextNm s ep li)).2 then (0, (putS s (nextNm s ep li)).1, false)
  else (7, (putS s (nextNm s ep li)).1, true)
set_option maxRecDepth 100000 in
set_option maxHeartbeats 4000000 in
theorem cput_any (c b : Nat) (off : Bool) (s : By) (ep li : Int) (se : Nat → Addr) (w : World) (C : Cel w c b off) (S : Byt w b s) (E : Se5 w se) (hcb : c ≠ b) (hgb : 3 ≠ b) (hgc : 3 ≠ c) (hL : s.left ≤ 9223372036854775807) :
    Calls Tryd.prog 21 #[.pointer (some ⟨c, 0, none⟩), .int .i64 ep, .int .i64 li] w fun e w' => e = .returned (terr se (putE off s ep li).1) ∧ Byt w' b (putE off s ep li).2.1 ∧ Cel w' c b (putE off s ep li).2.2 ∧ Chg2 b c w w' := by
  obtain ⟨R, hR⟩ : ∃ R, R = putE off s ep li := ⟨_, rfl⟩
  rw [← hR]
  have HR : Hid (R = putE off s ep li) := hR
  have HS : Hid (Byt w b s) := S
  have HC : Hid (Cel w c b off) := C
  have HE : Hid (Se5 w se) := E
  have HL : Hid (s.left ≤ 9223372036854775807) := hL
  have c1 := C.c1
  have g1 := E.c1
  have g5 := E.c5
  have g6 := E.c6
  have g9 := E.c9
  clear hR S C E hL
  cases off
  · cases hb : badEp ep li
    · have HB : Hid (isEp ep = true ∧ isEp li = true) := by
        show _ ∧ _
        unfold badEp at hb
        simpa using hb
      have I1 := HB.out.1
      have I2 := HB.out.2
      go_enter Tryd.func21, Tryd.ntmps21
      go_wp2_with (first | (go_at_call 37; refine (isEpoch_any _ _).mono ?_; rintro e w' ⟨rfl, hw⟩; obtain rfl := hw.symm))
      refine (there_any c b false s w HC.out HS.out).mono ?_
      rintro e w1 ⟨rfl, hb1⟩
      have C1 : Hid (Cel w1 c b false) := HC.out.below hb1
      have S1 : Hid (Byt w1 b s) := HS.out.below hb1
      have B1 : Hid (Below w.heap.size w w1) := hb1
      have E1 : Hid (Se5 w1 se) := HE.out.below hb1
      clear hb1 g1 g5 g6 g9 c1
      obtain ⟨y, hy⟩ : ∃ y, newest s.B = y := ⟨_, rfl⟩
      have HY : Hid (newest s.B = y) := hy
      have HYL : Hid (y.n < 4294967296 ∧ y.e < 4294967296 ∧ y.l < 4294967296) := by rw [← hy]; exact newest_lt s.B
      rw [hy]
      clear hy
      have HRO : Hid (R = if oldEp s ep li then (10, s, false) else if y.n = 4294967295 then (6, s, false) else if (putS s (nextNm s ep li)).2 then (0, (putS s (nextNm s ep li)).1, false) else (7, (putS s (nextNm s ep li)).1, true)) := by
        rw [HR.out, ← HY.out]; unfold putE; rw [hb]; exact rfl
      have HOE : Hid (oldEp s ep li = (decide (ep < y.e) || decide (li < y.l))) := by rw [← HY.out]; exact rfl
      clear hb
      unfold nmV
      obtain ⟨w2, hw2⟩ : ∃ w2, w2 = w1.alloc (.cells #[.int .i64 y.n, .int .i64 y.e, .int .i64 y.l] 98) := ⟨_, rfl⟩
      have N2 : Hid (Num3 w2 w1.heap.size y.n y.e y.l) := by rw [hw2]; exact heap_alloc_new w1 _
      have B2 : Hid (Below w1.heap.size w1 w2) := by rw [hw2]; exact aB _ _
      have C2 : Hid (Cel w2 c b false) := C1.out.below B2.out
      have S2 : Hid (Byt w2 b s) := S1.out.below B2.out
      have E2 : Hid (Se5 w2 se) := E1.out.below B2.out
      have hcz := C1.out.lt
      have hbz := S1.out.lt
      have e9 := E2.out.c9
      have e5 := E2.out.c5
      have e6 := E2.out.c6
      have d0 := C2.out.c0
      rw [hw2] at e9 e5 e6 d0
      by_cases ho : oldEp s ep li = true
      · have HRB : Hid (R = (10, s, false)) := by rw [HRO.out, if_pos ho]; exact rfl
        have BW : Hid (Below w.heap.size w w2) := t2 B1.out B2.out
        by_cases h1 : ep < y.e
        · go_wp2_with fail
          go_ret
          rw [← hw2]
          exact ⟨by rw [HRB.out]; rfl, by rw [HRB.out]; exact S2.out, by rw [HRB.out]; exact C2.out, Chg2.of BW.out⟩
        · have h2 : li < y.l := by
            rw [HOE.out, decide_eq_false h1] at ho
            simpa using ho
          go_wp2_with fail
          go_ret
          rw [← hw2]
          exact ⟨by rw [HRB.out]; rfl, by rw [HRB.out]; exact S2.out, by rw [HRB.out]; exact C2.out, Chg2.of BW.out⟩
      · have HRP : Hid (R = if y.n = 4294967295 then (6, s, false) else if (putS s (nextNm s ep li)).2 then (0, (putS s (nextNm s ep li)).1, false) else (7, (putS s (nextNm s ep li)).1, true)) := by rw [HRO.out, if_neg ho]; exact rfl
        have h12 : ¬ ep < y.e ∧ ¬ li < y.l := by
          rw [HOE.out] at ho
          simpa using ho
        obtain ⟨h1, h2⟩ := h12
        clear ho
        by_cases hf : y.n = 4294967295
        · have HRB : Hid (R = (6, s, false)) := by rw [HRP.out, if_pos hf]; exact rfl
          have BW : Hid (Below w.heap.size w w2) := t2 B1.out B2.out
          have hfz : ((y.n : Int) == 4294967295) = true := beq_iff_eq.2 (by omega)
          clear hf
          go_wp2_with fail
          go_ret
          rw [← hw2]
          exact ⟨by rw [HRB.out]; rfl, by rw [HRB.out]; exact S2.out, by rw [HRB.out]; exact C2.out, Chg2.of BW.out⟩
        · have HRF : Hid (R = if (putS s (nextNm s ep li)).2 then (0, (putS s (nextNm s ep li)).1, false) else (7, (putS s (nextNm s ep li)).1, true)) := by rw [HRP.out, if_neg hf]; exact rfl
          have hfz : ((y.n : Int) == 4294967295) = false := beq_eq_false_iff_ne.2 (by omega)
          have HX : Hid (nextNm s ep li = ⟨y.n + 1, ep.toNat, li.toNat⟩) := by unfold nextNm; rw [HY.out]; exact rfl
          rw [HX.out] at HRF
          have HEB : Hid (0 ≤ ep ∧ ep ≤ 1073741824 ∧ 0 ≤ li ∧ li ≤ 1073741824) := by
            have a := HB.out
            unfold isEp at a
            show _ ∧ _
            simp at a
            omega
          have hyn : y.n < 4294967295 := by have := HYL.out.1; omega
          have hyn2 : (y.n : Int) < 4294967295 := by omega
          have HEP : Hid ((ep.toNat : Int) = ep) := (show (ep.toNat : Int) = ep by have := HEB.out; omega)
          have HLI : Hid ((li.toNat : Int) = li) := (show (li.toNat : Int) = li by have := HEB.out; omega)
          obtain ⟨x, hx⟩ : ∃ x : Nm, x = ⟨y.n + 1, ep.toNat, li.toNat⟩ := ⟨_, rfl⟩
          have PU : Hid (∀ w, Byt w b s → Calls Tryd.prog 38 #[.pointer (some ⟨b, 0, none⟩), .agg #[.int .i64 (y.n + 1), .int .i64 ep, .int .i64 li]] w fun e w' => e = .returned (.bool (putS s x).2) ∧ Byt w' b (putS s x).1 ∧ Chg b w w') := fun w S => by
            have := bput_any b x (by rw [hx]; show y.n + 1 < _; omega) (by rw [hx]; show ep.toNat < _; have := HEB.out; omega) (by rw [hx]; show li.toNat < _; have := HEB.out; omega) s w S HL.out
            rw [hx] at this
            unfold nmV at this
            simp only [HEP.out, HLI.out] at this
            rw [hx]
            exact this
          rw [← hx] at HRF
          clear hx HX HRP HRO HOE hf HYL hyn
          have HWR : Hid (IntKind.i64.wrap ((y.n : Int) + 1) = (y.n : Int) + 1) := by show _ = _; rw [IntKind.wrap_i64]; omega
          clear hyn2
          go_upto_region 8 with fail
          go_wp2_with fail
          rw [← hw2]
          have BW : Hid (Below w.heap.size w w2) := t2 B1.out B2.out
          have hqc : w1.heap.size ≠ c := by omega
          have hqb : w1.heap.size ≠ b := by omega
          clear hw2 e9 e5 e6 d0 h1 h2 hfz hcz hbz I1 I2
          generalize w1.heap.size = q at *
          have hS : w2.drew.cell? ⟨c, 0, none⟩ = some (.pointer (some ⟨b, 0, none⟩)) ∧ w2.drew.cell? ⟨q, 0, none⟩ = some (.int .i64 y.n) := ⟨C2.out.c0, N2.out.c0⟩
          have hwr := HWR.out
          go_region_held3 (fun w' => w'.cell? ⟨c, 0, none⟩ = some (.pointer (some ⟨b, 0, none⟩)) ∧ w'.cell? ⟨q, 0, none⟩ = some (.int .i64 y.n)) (first | assumption | exact ⟨C3.out.c0, N3.out.c0⟩)
            (first | (go_at_call 38; refine (PU.out _ (S2.out.drew)).mono ?_; rintro e w3 ⟨rfl, s3, c3⟩; have C3 : Hid (Cel w3 c b false) := (C2.out.below (Below.refl _ _).drew).chg c3 hcb; have N3 : Hid (Num3 w3 q y.n y.e y.l) := (show Num3 w2.drew q y.n y.e y.l from N2.out).chg c3 hqb; have S3 : Hid (Byt w3 b (putS s x).1) := s3; have X3 : Hid (Chg b w w3) := (Chg.of (b := b) (t2 BW.out (Below.refl _ _).drew)).trans c3; have g3 : w3.cell? ⟨3, 0, none⟩ = some (.iface 161 (.pointer (some (se 6)))) := c3.keeps hgb (show w2.drew.cell? _ = _ from E2.out.c6); clear s3 c3))
          have HPX : Hid ((putS s x).2 = (putS s x).2) := rfl
          generalize putS s x = P at *
          obtain ⟨s5, ok⟩ := P
          have d1 := C3.out.c1
          have d2 := C3.out.f1
          cases ok
          · have HRB : Hid (R = (7, s5, true)) := HRF.out
            have g4 : (w3.setCell ⟨c, 1, none⟩ (.bool true)).cell? ⟨3, 0, none⟩ = some (.iface 161 (.pointer (some (se 6)))) := by
              rw [World.cell?_setCell_other _ _ _ _ (by intro e; injection e with e; exact hgc e.symm)]; exact g3
            go_wp2_with fail
            go_ret
            exact ⟨by rw [HRB.out]; rfl, by rw [HRB.out]; exact S3.out.chg (Chg.set c _ _ _) (fun e => hcb e.symm), by rw [HRB.out]; exact C3.out.kill true, ((Chg2.refl b c w).on X3.out (Or.inl rfl)).on (Chg.set c _ _ _) (Or.inr (Or.inl rfl))⟩
          · have HRB : Hid (R = (0, s5, false)) := HRF.out
            go_wp2_with fail
            go_ret
            exact ⟨by rw [HRB.out]; rfl, by rw [HRB.out]; exact S3.out, by rw [HRB.out]; exact C3.out, (Chg2.refl b c w).on X3.out (Or.inl rfl)⟩
    · have HRB : Hid (R = (2, s, false)) := by rw [HR.out]; unfold putE; rw [hb]; exact rfl
      cases h1 : isEp ep
      · go_enter Tryd.func21, Tryd.ntmps21
        go_wp2_with (first | (go_at_call 37; refine (isEpoch_any _ _).mono ?_; rintro e w' ⟨rfl, hw⟩; obtain rfl := hw.symm))
        go_ret
        exact ⟨by rw [HRB.out]; rfl, by rw [HRB.out]; exact HS.out, by rw [HRB.out]; exact HC.out, Chg2.refl _ _ _⟩
      · have h2 : isEp li = false := by
          unfold badEp at hb
          rw [h1] at hb
          simpa using hb
        go_enter Tryd.func21, Tryd.ntmps21
        go_wp2_with (first | (go_at_call 37; refine (isEpoch_any _ _).mono ?_; rintro e w' ⟨rfl, hw⟩; obtain rfl := hw.symm))
        go_ret
        exact ⟨by rw [HRB.out]; rfl, by rw [HRB.out]; exact HS.out, by rw [HRB.out]; exact HC.out, Chg2.refl _ _ _⟩
  · have HRB : Hid (R = (7, s, true)) := HR.out
    go_enter Tryd.func21, Tryd.ntmps21
    go_wp2_with fail
    go_ret
    exact ⟨by rw [HRB.out]; rfl, by rw [HRB.out]; exact HS.out, by rw [HRB.out]; exact HC.out, Chg2.refl _ _ _⟩
end Go.Proofs.YtjfhompbeengmaaDoor

namespace Go.Proofs.YtjfhompbeengmaaDoor

theorem held_spec {B : List UInt8} {k : Nat} (h : isHeld B k = true) : (slotN B k).n % 2 = k ∧ 1 ≤ (slotN B k).n := by
  unfold isHeld heldB at h
  simp only [Bool.and_eq_true, decide_eq_true_eq, beq_iff_eq] at h
  exact ⟨h.2, h.1.2⟩
theorem slotL_at (B : List UInt8) (k i : Nat) (hi : i < 16) : (slotL B k)[i]? = B[20 * k + i]? := by
  unfold slotL
  rw [List.getElem?_take, if_pos hi, List.getElem?_drop]
theorem slotL_congr {B B' : List UInt8} {k : Nat} (h : ∀ i, i < 17 → B'[20 * k + i]? = B[20 * k + i]?) : slotL B' k = slotL B k ∧ slotM B' k = slotM B k := by
  constructor
  · apply List.ext_getElem?
    intro i
    by_cases hi : i < 16
    · rw [slotL_at _ _ _ hi, slotL_at _ _ _ hi, h i (by omega)]
    · unfold slotL
      rw [List.getElem?_take, if_neg hi, List.getElem?_take, if_neg hi]
  · unfold slotM
    rw [List.getD_eq_getElem?_getD, List.getD_eq_getElem?_getD, h 16 (by omega)]
theorem slot_congr {B B' : List UInt8} {k : Nat} (h : ∀ i, i < 17 → B'[20 * k + i]? = B[20 * k + i]?) : isHeld B' k = isHeld B k ∧ slotN B' k = slotN B k := by
  obtain ⟨h1, h2⟩ := slotL_congr h
  unfold isHeld slotN
  rw [h1, h2]
  exact ⟨rfl, rfl⟩
theorem seqW_mem : ∀ (L : List UInt8) (a : Nat) (q : Nat × UInt8), q ∈ seqW a L → a ≤ q.1 ∧ q.1 < a + L.length
  | [], _, q, h => by simp [seqW] at h
  | v :: L, a, q, h => by
    unfold seqW at h
    rcases List.mem_cons.1 h with rfl | h
    · simp
    · have := seqW_mem L (a + 1) q h
      simp
      omega
theorem seqW_len : ∀ (L : List UInt8) (a : Nat), (seqW a L).length = L.length
  | [], _ => rfl
  | v :: L, a => by simp [seqW, seqW_len L]
theorem putW_mem (B : List UInt8) (x : Nm) (q : Nat × UInt8) (h : q ∈ putW B x) : 20 * (x.n % 2) ≤ q.1 ∧ q.1 ≤ 20 * (x.n % 2) + 16 := by
  unfold putW preW at h
  rcases List.mem_append.1 h with h | h
  · split at h
    · simp at h
    · rw [List.mem_singleton] at h
      subst h
      simp
  · rcases List.mem_append.1 h with h | h
    · have := seqW_mem _ _ _ h
      rw [img_len] at this
      omega
    · rw [List.mem_singleton] at h
      subst h
      simp
theorem app_seq : ∀ (L : List UInt8) (a : Nat) (B : List UInt8), a + L.length ≤ B.length → app B (seqW a L) = B.take a ++ (L ++ B.drop (a + L.length))
  | [], a, B, _ => by simp [seqW, app]
  | v :: L, a, B, h => by
    have ih := app_seq L (a + 1) (B.set a v) (by simp at h ⊢; omega)
    show app (B.set a v) (seqW (a + 1) L) = _
    rw [ih]
    simp only [List.length_cons] at h ⊢
    have e1 : (B.set a v).take (a + 1) = B.take a ++ [v] := by
      rw [List.take_succ_eq_append_getElem (by rw [List.length_set]; omega), List.getElem_set_self, List.take_set_of_le (by omega)]
    have e2 : (B.set a v).drop (a + 1 + L.length) = B.drop (a + (L.length + 1)) := by
      rw [List.drop_set_of_lt (by omega), show a + 1 + L.length = a + (L.length + 1) from by omega]
    rw [e1, e2]
    simp
/-- the other slot is not touched. -/
theorem put_other {B : List UInt8} {x : Nm} {l : List (Nat × UInt8)} (hl : ∀ q, q ∈ l → q ∈ putW B x) (k : Nat) (hn : k ≠ x.n % 2) : isHeld (app B l) k = isHeld B k ∧ slotN (app B l) k = slotN B k := by
  apply slot_congr
  intro i hi
  apply app_other
  intro q hq
  have := putW_mem B x q (hl q hq)
  omega
theorem putW_len (B : List UInt8) (x : Nm) : (putW B x).length = (preW B (20 * (x.n % 2))).length + 17 := by
  unfold putW
  rw [List.length_append, List.length_append, seqW_len, img_len]
  rfl
/-- power failed: the slot is as it was, or its mark is away. -/
theorem put_part {B : List UInt8} (hB : B.length = 64) (x : Nm) (j : Nat) (hj : j < (putW B x).length) : app B ((putW B x).take j) = B ∨ slotM (app B ((putW B x).take j)) (x.n % 2) = 0 := by
  have hseq : ∀ (C : List UInt8) (i : Nat), C.getD (20 * (x.n % 2) + 16) 0 = 0 → slotM (app C ((seqW (20 * (x.n % 2)) (img x)).take i)) (x.n % 2) = 0 := fun C i hc => by
    unfold slotM
    rw [List.getD_eq_getElem?_getD, app_other _ _ _ (fun q hq => ?_), ← List.getD_eq_getElem?_getD, hc]
    have := seqW_mem _ _ _ (List.mem_of_mem_take hq)
    rw [img_len] at this
    omega
  rw [putW_len] at hj
  unfold putW
  unfold preW at hj ⊢
  split
  · rename_i h0
    right
    rw [if_pos h0] at hj
    rw [List.nil_append, List.take_append_of_le_length (by rw [seqW_len, img_len]; simp at hj; omega)]
    exact hseq B j h0
  · rename_i h0
    rw [if_neg h0] at hj
    cases j with
    | zero => left; rfl
    | succ j =>
      right
      rw [List.cons_append, List.take_succ_cons, List.nil_append, List.take_append_of_le_length (by rw [seqW_len, img_len]; simp at hj; omega)]
      show slotM (app (B.set (20 * (x.n % 2) + 16) 0) _) _ = 0
      apply hseq
      rw [List.getD_eq_getElem?_getD, List.getElem?_set_self (by omega)]
      rfl
theorem unmarked {B : List UInt8} {k : Nat} (h : slotM B k = 0) : isHeld B k = false := by
  unfold isHeld heldB
  rw [h]
  rfl
/-- all was written: the slot holds it. -/
theorem put_whole {B : List UInt8} (hB : B.length = 64) {x : Nm} (h0 : 1 ≤ x.n) (h1 : x.n < 4294967296) (h2 : x.e < 4294967296) (h3 : x.l < 4294967296) : isHeld (app B (putW B x)) (x.n % 2) = true ∧ slotN (app B (putW B x)) (x.n % 2) = x := by
  have hk : x.n % 2 < 2 := by omega
  obtain ⟨C, hC, hCl⟩ : ∃ C, app B (preW B (20 * (x.n % 2))) = C ∧ C.length = 64 := ⟨_, rfl, by rw [app_len, hB]⟩
  have e : app B (putW B x) = (C.take (20 * (x.n % 2)) ++ (img x ++ C.drop (20 * (x.n % 2) + 16))).set (20 * (x.n % 2) + 16) 165 := by
    unfold putW
    rw [app_append, app_append, hC, app_seq _ _ _ (by rw [img_len]; omega), img_len]
    rfl
  have hL : slotL (app B (putW B x)) (x.n % 2) = img x := by
    apply List.ext_getElem?
    intro i
    by_cases hi : i < 16
    · rw [slotL_at _ _ _ hi, e, List.getElem?_set_ne (by omega), List.getElem?_append_right (by rw [List.length_take]; omega), List.length_take, Nat.min_eq_left (by omega), Nat.add_sub_cancel_left, List.getElem?_append_left (by rw [img_len]; exact hi)]
    · unfold slotL
      rw [List.getElem?_take, if_neg hi, List.getElem?_eq_none (by rw [img_len]; omega)]
  have hM : slotM (app B (putW B x)) (x.n % 2) = 165 := by
    unfold slotM
    rw [e, List.getD_eq_getElem?_getD, List.getElem?_set_self (by simp [img_len]; omega)]
    rfl
  have hN : slotN (app B (putW B x)) (x.n % 2) = x := by
    unfold slotN
    rw [hL]
    have := nmOf_img h1 h2 h3 []
    rw [List.append_nil] at this
    exact this
  refine ⟨?_, hN⟩
  unfold isHeld heldB
  have hN' : nmOf (slotL (app B (putW B x)) (x.n % 2)) = x := hN
  rw [hN', hL, hM]
  simp [h0]
theorem newest_two (B : List UInt8) : newest B = if isHeld B 1 = true ∧ (if isHeld B 0 = true ∧ 0 < (slotN B 0).n then slotN B 0 else ⟨0, 0, 0⟩ : Nm).n < (slotN B 1).n then slotN B 1 else (if isHeld B 0 = true ∧ 0 < (slotN B 0).n then slotN B 0 else ⟨0, 0, 0⟩) := rfl
theorem two_ok (B B' : List UInt8) (x : Nm) (hx : x.n = (newest B).n + 1) (ho : ∀ k, k < 2 → k ≠ x.n % 2 → isHeld B' k = isHeld B k ∧ slotN B' k = slotN B k) (hh : isHeld B' (x.n % 2) = true) (hn : slotN B' (x.n % 2) = x) : newest B' = x := by
  have s0 := held_spec (B := B) (k := 0)
  have s1 := held_spec (B := B) (k := 1)
  rw [newest_two] at hx
  rw [newest_two]
  have hk : x.n % 2 = 0 ∨ x.n % 2 = 1 := by omega
  rcases hk with hk | hk <;> rw [hk] at ho hh hn
  · obtain ⟨a, b⟩ := ho 1 (by omega) (by omega)
    have hi : (if isHeld B' 0 = true ∧ 0 < (slotN B' 0).n then slotN B' 0 else ⟨0, 0, 0⟩ : Nm) = x := by rw [hh, hn, if_pos ⟨rfl, by omega⟩]
    rw [hi, a, b, if_neg]
    rintro ⟨c, d⟩
    rw [c] at hx
    split at hx <;> split at hx <;> simp_all <;> omega
  · obtain ⟨a, b⟩ := ho 0 (by omega) (by omega)
    rw [hh, hn, a, b, if_pos]
    refine ⟨rfl, ?_⟩
    split at hx <;> split at hx <;> simp_all <;> omega
theorem two_no (B B' : List UInt8) (x : Nm) (hx : x.n = (newest B).n + 1) (ho : ∀ k, k < 2 → k ≠ x.n % 2 → isHeld B' k = isHeld B k ∧ slotN B' k = slotN B k) (hh : isHeld B' (x.n % 2) = false) : newest B' = newest B := by
  have s0 := held_spec (B := B) (k := 0)
  have s1 := held_spec (B := B) (k := 1)
  have hk : x.n % 2 = 0 ∨ x.n % 2 = 1 := by omega
  rw [newest_two] at hx
  rw [newest_two, newest_two]
  rcases hk with hk | hk <;> rw [hk] at ho hh
  · obtain ⟨a, b⟩ := ho 1 (by omega) (by omega)
    rw [hh, a, b]
    cases h1 : isHeld B 1 <;> cases h0 : isHeld B 0 <;> rw [h1, h0] at hx <;> simp only [h0, h1, true_implies] at s0 s1 <;> simp at hx s0 s1 ⊢
    · rw [if_pos (by omega)] at hx
      exfalso; omega
    · rw [if_pos (show 0 < (slotN B 0).n by omega)] at hx ⊢
      split at hx
      · rename_i h
        rw [if_pos (by omega), if_pos h]
      · exfalso; omega
  · obtain ⟨a, b⟩ := ho 0 (by omega) (by omega)
    rw [hh, a, b]
    cases h1 : isHeld B 1 <;> cases h0 : isHeld B 0 <;> rw [h1, h0] at hx <;> simp only [h0, h1, true_implies] at s0 s1 <;> simp at hx s0 s1 ⊢
    · intro h
      rw [if_pos h] at hx
      exfalso; omega
    · rw [if_pos (show 0 < (slotN B 0).n by omega)] at hx ⊢
      intro h
      rw [if_pos h] at hx
      exfalso; omega
theorem put_pair {s : By} (hB : s.B.length = 64) {x : Nm} (hx : x.n = (newest s.B).n + 1) (h1 : x.n < 4294967296) (h2 : x.e < 4294967296) (h3 : x.l < 4294967296) :
    ((putS s x).2 = true → newest (putS s x).1.B = x ∧ (putS s x).1.on = true) ∧ ((putS s x).2 = false → newest (putS s x).1.B = newest s.B ∧ (putS s x).1.on = false) := by
  have hne : putW s.B x ≠ [] := fun e => by have := putW_len s.B x; rw [e] at this; simp at this
  unfold putS
  rw [wrs_eq]
  by_cases hc : s.on = true ∧ (s.cut = false ∨ (putW s.B x).length ≤ s.left)
  · rw [if_pos hc]
    refine ⟨fun _ => ⟨?_, rfl⟩, fun h => by cases h⟩
    obtain ⟨a, b⟩ := put_whole hB (by omega) h1 h2 h3
    exact two_ok s.B _ x hx (fun k _ hn => put_other (fun _ h => h) k hn) a b
  · rw [if_neg hc]
    by_cases ho : s.on = true
    · rw [if_pos (.inl ho), if_neg hne]
      refine ⟨fun h => (by cases h), fun _ => ⟨?_, rfl⟩⟩
      have hlt : s.left < (putW s.B x).length := by
        rcases Nat.lt_or_ge s.left (putW s.B x).length with h | h
        · exact h
        · exact absurd ⟨ho, .inr h⟩ hc
      show newest (app s.B ((putW s.B x).take s.left)) = _
      rcases put_part hB x s.left hlt with h | h
      · rw [h]
      · exact two_no s.B _ x hx (fun k _ hn => put_other (fun _ h => List.mem_of_mem_take h) k hn) (unmarked h)
    · rw [if_neg (by simp [ho, hne])]
      exact ⟨fun h => (by cases h), fun _ => ⟨rfl, by simpa using ho⟩⟩
end Go.Proofs.YtjfhompbeengmaaDoor

namespace Go.Proofs.YtjfhompbeengmaaDoor
open Go.RowKit

theorem wrs_left (l : List (Nat × UInt8)) (s : By) : (wrs s l).1.left ≤ s.left := by
  rw [wrs_eq]
  split
  · simp only; split <;> omega
  · split
    · split
      · exact Nat.le_refl _
      · exact Nat.zero_le _
    · exact Nat.le_refl _
theorem putE_left (off : Bool) (s : By) (ep li : Int) : (putE off s ep li).2.1.left ≤ s.left := by
  unfold putE
  repeat' split
  all_goals first | exact Nat.le_refl _ | exact wrs_left _ _
theorem putE_len (off : Bool) (s : By) (ep li : Int) : (putE off s ep li).2.1.B.length = s.B.length := by
  unfold putE
  repeat' split
  all_goals first | rfl | exact wrs_len _ _
/-- what a law has: bytes, and a cell of them. -/
structure Cl (w0 w : World) (b c : Nat) (s : By) (off : Bool) : Prop where
  y : Byt w b s
  e : Cel w c b off
  ne : c ≠ b
  hb : w0.heap.size ≤ b
  hc : w0.heap.size ≤ c
  bl : Below w0.heap.size w0 w
  lf : s.left ≤ 9223372036854775807
theorem Cl.below {w0 w w' : World} {b c : Nat} {s : By} {off : Bool} (h : Cl w0 w b c s off) (k : Below w.heap.size w w') : Cl w0 w' b c s off :=
  ⟨h.y.below k, h.e.below k, h.ne, h.hb, h.hc, t2 h.bl k, h.lf⟩
theorem put_cl {w0 w : World} {b c : Nat} {s : By} {off : Bool} (h : Cl w0 w b c s off) (ep li : Int) (se : Nat → Addr) (E : Se5 w0 se) :
    Calls Tryd.prog 21 #[.pointer (some ⟨c, 0, none⟩), .int .i64 ep, .int .i64 li] w fun e w' => e = .returned (terr se (putE off s ep li).1) ∧ Cl w0 w' b c (putE off s ep li).2.1 (putE off s ep li).2.2 ∧ Chg2 b c w w' := by
  have hg := tlt E.c6
  have hb := h.hb
  have hc := h.hc
  refine (cput_any c b off s ep li se w h.e h.y (E.below h.bl) h.ne (by simp only at hg; omega) (by simp only at hg; omega) h.lf).mono ?_
  rintro e w' ⟨rfl, a1, a2, a3⟩
  exact ⟨rfl, ⟨a1, a2, h.ne, h.hb, h.hc, Chg2.below h.bl a3 h.hb h.hc, Nat.le_trans (putE_left _ _ _ _) h.lf⟩, a3⟩
theorem Cl.setC {w0 w w' : World} {b c : Nat} {s s' : By} {off : Bool} (h : Cl w0 w b c s off) (a : Byt w' b s') (k : Chg b w w') (hl : s'.left ≤ 9223372036854775807) : Cl w0 w' b c s' off :=
  ⟨a, h.e.chg k h.ne, h.ne, h.hb, h.hc, Chg.below h.bl k h.hb, hl⟩
theorem open_cl {w0 w : World} {b c : Nat} {s : By} {off : Bool} (h : Cl w0 w b c s off) (ho : s.on = true) :
    Calls Tryd.prog 17 #[.pointer (some ⟨b, 0, none⟩)] w fun e w' => ∃ c', e = .returned (.tuple #[.pointer (some ⟨c', 0, none⟩), .nilIface]) ∧ Cl w0 w' b c' s false ∧ Cl w0 w' b c s off ∧ Below w.heap.size w w' := by
  refine (open_ok b s w h.y ho).mono ?_
  rintro e w' ⟨⟨rfl, a1⟩, a2⟩
  have := h.y.lt
  exact ⟨_, rfl, ⟨h.y.below a2, a1, by omega, h.hb, h.bl.size, t2 h.bl a2, h.lf⟩, h.below a2, a2⟩
theorem start_cl (w0 w : World) (hb : Below w0.heap.size w0 w) :
    Calls Tryd.prog 5 #[] w fun e w' => ∃ b, e = .returned (.pointer (some ⟨b, 0, none⟩)) ∧ Byt w' b new0 ∧ w0.heap.size ≤ b ∧ Below w0.heap.size w0 w' := by
  refine (newBytes_any w).mono ?_
  rintro e w' ⟨⟨rfl, a1⟩, a2⟩
  exact ⟨_, rfl, a1, hb.size, t2 hb a2⟩
theorem first_cl {w0 w : World} {b : Nat} {s : By} (y : Byt w b s) (hb : w0.heap.size ≤ b) (bl : Below w0.heap.size w0 w) (ho : s.on = true) (hl : s.left ≤ 9223372036854775807) :
    Calls Tryd.prog 17 #[.pointer (some ⟨b, 0, none⟩)] w fun e w' => ∃ c', e = .returned (.tuple #[.pointer (some ⟨c', 0, none⟩), .nilIface]) ∧ Cl w0 w' b c' s false := by
  refine (open_ok b s w y ho).mono ?_
  rintro e w' ⟨⟨rfl, a1⟩, a2⟩
  have := y.lt
  exact ⟨_, rfl, y.below a2, a1, by omega, hb, bl.size, t2 bl a2, hl⟩
theorem new0_newest : newest new0.B = ⟨0, 0, 0⟩ := by
  have h0 : isHeld new0.B 0 = false := unmarked (by decide)
  have h1 : isHeld new0.B 1 = false := unmarked (by decide)
  rw [newest_two, h0, h1]
  rfl
/-- a put that has power, and no cut ahead. -/
theorem put_on {s : By} (h : s.on = true) (hc : s.cut = false) (x : Nm) : (putS s x).2 = true := by
  unfold putS
  rw [wrs_eq, if_pos ⟨h, .inl hc⟩]
theorem kept_put : (putE false new0 4 7).1 = 0 ∧ newest (putE false new0 4 7).2.1.B = ⟨1, 4, 7⟩ ∧ (putE false new0 4 7).2.1.on = true ∧ (putE false new0 4 7).2.2 = false := by
  have hp := put_on (s := new0) rfl rfl (nextNm new0 4 7)
  have hx : nextNm new0 4 7 = ⟨1, 4, 7⟩ := by unfold nextNm; rw [new0_newest]; rfl
  have e : putE false new0 4 7 = (0, (putS new0 (nextNm new0 4 7)).1, false) := by
    unfold putE
    have h1 : badEp 4 7 = false := by decide
    have h2 : oldEp new0 4 7 = false := by unfold oldEp; rw [new0_newest]; rfl
    have h3 : ¬ (newest new0.B).n = 4294967295 := by rw [new0_newest]; simp
    rw [h1, h2, if_neg h3, hp]
    rfl
  have hq := (put_pair (s := new0) (x := nextNm new0 4 7) (by rfl) (by rw [hx, new0_newest]) (by rw [hx]; decide) (by rw [hx]; decide) (by rw [hx]; decide)).1 hp
  rw [e]
  rw [hx] at hq ⊢
  exact ⟨rfl, hq.1, hq.2, rfl⟩
end Go.Proofs.YtjfhompbeengmaaDoor
