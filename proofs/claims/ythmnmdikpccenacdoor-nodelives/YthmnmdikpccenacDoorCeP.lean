/-
  Package cell's put: a slot is written.
-/
import Derived.Test.YthmnmdikpccenacDoorCeJ
import Derived.Deep.DeepCutAuto
import Derived.Deep.CutRange
namespace Go.Proofs.YthmnmdikpccenacDoor
open Go.RowKit

theorem Num3.chg {w w' : World} {q b : Nat} {a c d : Int} (h : Num3 w q a c d) (hb : Chg b w w') (hn : q ≠ b) : Num3 w' q a c d := by
  unfold Num3; rw [hb.block q h.lt hn]; exact h
/-- behind one write. -/
def By.wrN (s : By) (a : Nat) (v : UInt8) : By := if s.ok then s.wr a v else s.off
theorem write_any (b p : Nat) (hp : p < 64) (v : UInt8) (s : By) (w : World) (S : Byt w b s) (hL : s.left ≤ 9223372036854775807) :
    Calls Tryd.prog 53 #[.pointer (some ⟨b, 0, none⟩), .int .i64 p, u8v v] w fun e w' => e = .returned (.bool s.ok) ∧ Byt w' b (s.wrN p v) ∧ Chg b w w' := by
  unfold By.wrN
  cases h : s.ok
  · exact write_no b p v s w S h
  · exact write_ok b p hp v s w S h hL
theorem wr_left (s : By) (a : Nat) (v : UInt8) (n : Nat) (h : s.left ≤ n) : (s.wr a v).left ≤ n := by
  unfold By.wr
  simp only
  split <;> omega
theorem wrs_cons (s : By) (a : Nat) (v : UInt8) (r : List (Nat × UInt8)) : wrs s ((a, v) :: r) = if s.ok then wrs (s.wr a v) r else (s.off, false) := rfl
theorem seqW_drop (L : List UInt8) (a j : Nat) (h : j < L.length) : seqW (a + j) (L.drop j) = (a + j, L[j]) :: seqW (a + (j + 1)) (L.drop (j + 1)) := by
  rw [List.drop_eq_getElem_cons h, seqW, Nat.add_assoc]
/-- what is left to be written behind j bytes. -/
def restW (s : By) (x : Nm) (p j : Nat) : By × Bool := wrs s (seqW (p + j) ((img x).drop j) ++ [(p + 16, 165)])
theorem restW_next (s : By) (x : Nm) (p j : Nat) (h : j < (img x).length) : restW s x p j = if s.ok then restW (s.wr (p + j) (img x)[j]) x p (j + 1) else (s.off, false) := by
  unfold restW
  rw [seqW_drop _ _ _ h]
  rfl
theorem restW_end (s : By) (x : Nm) (p : Nat) : restW s x p 16 = if s.ok then (s.wr (p + 16) 165, true) else (s.off, false) := by
  unfold restW
  rw [List.drop_of_length_le (by rw [img_len]; omega)]
  rfl
theorem putS_pre0 (s : By) (x : Nm) (h : s.B.getD (20 * (x.n % 2) + 16) 0 = 0) : putS s x = restW s x (20 * (x.n % 2)) 0 := by
  unfold putS putW preW restW
  rw [if_pos h]
  rfl
theorem putS_pre1 (s : By) (x : Nm) (h : s.B.getD (20 * (x.n % 2) + 16) 0 ≠ 0) : putS s x = if s.ok then restW (s.wr (20 * (x.n % 2) + 16) 0) x (20 * (x.n % 2)) 0 else (s.off, false) := by
  unfold putS putW preW restW
  rw [if_neg h]
  rfl
set_option maxRecDepth 100000 in
set_option maxHeartbeats 4000000 in
theorem bput_any (b : Nat) (x : Nm) (h1 : x.n < 4294967296) (h2 : x.e < 4294967296) (h3 : x.l < 4294967296) (s : By) (w : World) (S : Byt w b s) (hL : s.left ≤ 9223372036854775807) :
    Calls Tryd.prog 38 #[.pointer (some ⟨b, 0, none⟩), nmV x] w fun e w' => e = .returned (.bool (putS s x).2) ∧ Byt w' b (putS s x).1 ∧ Chg b w w' := by
  obtain ⟨R, hR⟩ : ∃ R, R = putS s x := ⟨_, rfl⟩
  have P0 : Hid (s.B.getD (20 * (x.n % 2) + 16) 0 = 0 → R = restW s x (20 * (x.n % 2)) 0) := fun h => by rw [hR, putS_pre0 s x h]
  have P1 : Hid (s.B.getD (20 * (x.n % 2) + 16) 0 ≠ 0 → R = if s.ok then restW (s.wr (20 * (x.n % 2) + 16) 0) x (20 * (x.n % 2)) 0 else (s.off, false)) := fun h => by rw [hR, putS_pre1 s x h]
  have SL : Hid (∀ w, Calls Tryd.prog 52 #[.int .i64 x.n] w fun e w' => e = .returned (.int .i64 ((x.n % 2 : Nat) : Int)) ∧ w' = w) := fun w => slotOf_any x.n w
  rw [← hR]
  clear hR
  have hr2 : x.n % 2 < 2 := by omega
  generalize x.n % 2 = r at *
  obtain ⟨p, hp⟩ : ∃ p, p = 20 * r := ⟨_, rfl⟩
  rw [← hp] at P0 P1
  have hp20 : p + 17 ≤ 64 := by omega
  have hpv : (r : Int) * 20 = (p : Int) := by omega
  have HS : Hid (Byt w b s) := S
  have HL : Hid (s.left ≤ 9223372036854775807) := hL
  have IM : Hid (∀ w, Calls Tryd.prog 54 #[nmV x] w fun e w' => e = .returned (.agg (arrV (img x))) ∧ Below w.heap.size w w') := fun w => image_any x h1 h2 h3 w
  clear S hL hp
  unfold nmV at *
  go_enter Tryd.func38, Tryd.ntmps38
  go_wp2_with fail
  refine (SL.out _).mono ?_
  rintro e w1 ⟨rfl, hw1⟩
  have N1 : Hid (Num3 w1 w.heap.size x.n x.e x.l) := by rw [hw1]; exact heap_alloc_new w _
  have B1 : Hid (Below w.heap.size w w1) := by rw [hw1]; exact aB _ _
  have S1 : Hid (Byt w1 b s) := HS.out.below B1.out
  have hbz : b ≠ w.heap.size := by have := HS.out.lt; omega
  clear hw1
  obtain ⟨Z, hZ⟩ : ∃ Z, Z = w.heap.size := ⟨_, rfl⟩
  have HZ : Hid (Z = w.heap.size) := hZ
  rw [← hZ] at N1 hbz ⊢
  clear hZ
  have hmk := S1.out.at' (p + 16) (by omega)
  unfold u8v at hmk
  have i16 : (p : Int) + 16 < 64 := by omega
  clear hmk
  go_upto_region 2 with fail
  go_cut [26] (fun t wx => ∃ st : By, ((t = .bool true ∧ R = (st, false)) ∨ (t = .bool false ∧ R = restW st x p 0 ∧ st.left ≤ 9223372036854775807)) ∧ Byt wx b st ∧ Num3 wx Z x.n x.e x.l ∧ Chg b w wx)
  case first =>
    have hmk := S1.out.at' (p + 16) (by omega)
    unfold u8v at hmk
    by_cases hm : s.B.getD (p + 16) 0 = 0
    · have HR : Hid (R = restW s x p 0) := P0.out hm
      rw [hm] at hmk
      have hm0 : w1.cell? ⟨b, p + 16, none⟩ = some (.int .u8 0) := hmk
      clear hmk
      go_wp2_with fail
      go_meet
      case rel => exact ⟨s, .inr ⟨rfl, HR.out, HL.out⟩, S1.out, N1.out, Chg.of B1.out⟩
    · have HR : Hid (R = if s.ok then restW (s.wr (p + 16) 0) x p 0 else (s.off, false)) := P1.out hm
      have hne : (((s.B.getD (p + 16) 0).toNat : Int) != 0) = true := by
        rw [bne_iff_ne]
        intro e
        exact hm (UInt8.toNat_inj.1 (by show _ = 0; omega))
      generalize s.B.getD (p + 16) 0 = m at *
      go_wp2_with fail
      refine (write_any b (p + 16) (by omega) 0 s w1 S1.out HL.out).mono ?_
      rintro e w2 ⟨rfl, s2, c2⟩
      have S2 : Hid (Byt w2 b (s.wrN (p + 16) 0)) := s2
      have C2 : Hid (Chg b w w2) := (Chg.of B1.out).trans c2
      have N2 : Hid (Num3 w2 Z x.n x.e x.l) := N1.out.chg c2 (fun e => hbz e.symm)
      clear s2 c2 hmk
      cases hok : s.ok
      · have HR2 : Hid (R = (s.off, false)) := by rw [HR.out, hok]; rfl
        have HW : Hid (s.wrN (p + 16) 0 = s.off) := by unfold By.wrN; rw [hok]; rfl
        go_wp2_with fail
        go_meet
        case rel => exact ⟨s.off, .inl ⟨rfl, HR2.out⟩, by rw [← HW.out]; exact S2.out, N2.out, C2.out⟩
      · have HR2 : Hid (R = restW (s.wr (p + 16) 0) x p 0) := by rw [HR.out, hok]; rfl
        have HW : Hid (s.wrN (p + 16) 0 = s.wr (p + 16) 0) := by unfold By.wrN; rw [hok]; rfl
        go_wp2_with fail
        go_meet
        case rel => exact ⟨s.wr (p + 16) 0, .inr ⟨rfl, HR2.out, wr_left _ _ _ _ HL.out⟩, by rw [← HW.out]; exact S2.out, N2.out, C2.out⟩
  case rest =>
    obtain ⟨st, hor, hs2, hn2, hc2⟩ := hcut
    have S2 : Hid (Byt wc b st) := hs2
    have N2 : Hid (Num3 wc Z x.n x.e x.l) := hn2
    have C2 : Hid (Chg b w wc) := hc2
    clear hs2 hn2 hc2
    rcases hor with ⟨rfl, hR⟩ | ⟨rfl, hR, hle⟩
    · have HR : Hid (R = (st, false)) := hR
      clear hR
      go_wp2_with fail
      go_ret
      exact ⟨by rw [HR.out]; rfl, by rw [HR.out]; exact S2.out, C2.out⟩
    · have HR : Hid (R = restW st x p 0) := hR
      have HLE : Hid (st.left ≤ 9223372036854775807) := hle
      clear hR hle
      have n0 := N2.out.c0
      have n1 := N2.out.c1
      have n2 := N2.out.c2
      go_wp2_with fail
      refine (IM.out _).mono ?_
      rintro e w3 ⟨rfl, hb3⟩
      have S3 : Hid (Byt w3 b st) := S2.out.below hb3
      have C3 : Hid (Chg b w w3) := C2.out.then hb3
      have HIX : Hid (∀ k : Nat, (hk : k < (img x).length) → ∀ w, (Instr.index 116 (.agg (arrV (img x))) (.int .i64 k)).run Tryd.prog w = .ok (u8v (img x)[k]) w) := fun k hk w => arrV_index Tryd.underlying116 (img x) k (img_len x) hk w
      clear hb3 n0 n1 n2
      generalize arrV (img x) = arr at *
      go_wp2_with fail
      go_loopw [29] (fun t wr => ∃ j : Nat, j ≤ 16 ∧ t = .int .i64 j ∧ ∃ sj : By, Byt wr b sj ∧ R = restW sj x p j ∧ sj.left ≤ 9223372036854775807 ∧ Chg b w wr) (fun t _ => 16 - (intOf t).toNat)
      case atStart => exact ⟨0, by omega, rfl, st, S3.out, HR.out, HLE.out, C3.out⟩
      case round =>
        obtain ⟨j, hj, rfl, sj, hsj, hRj, hlj, hcj⟩ := hrel
        have SJ : Hid (Byt wr b sj) := hsj
        have RJ : Hid (R = restW sj x p j) := hRj
        have LJ : Hid (sj.left ≤ 9223372036854775807) := hlj
        have CJ : Hid (Chg b w wr) := hcj
        clear hsj hRj hlj hcj
        by_cases hlt : j < 16
        · have hix := HIX.out j (by rw [img_len]; exact hlt) wr
          have RN : Hid (R = if sj.ok then restW (sj.wr (p + j) ((img x)[j]'(by rw [img_len]; exact hlt))) x p (j + 1) else (sj.off, false)) := by
            rw [RJ.out]; exact restW_next sj x p j _
          generalize (img x)[j]'(by rw [img_len]; exact hlt) = v at *
          have WA : Hid (Calls Tryd.prog 53 #[.pointer (some ⟨b, 0, none⟩), .int .i64 (p + j : Nat), u8v v] wr fun e w' => e = .returned (.bool sj.ok) ∧ Byt w' b (sj.wrN (p + j) v) ∧ Chg b wr w') := write_any b (p + j) (by omega) v sj wr SJ.out LJ.out
          rw [Int.natCast_add] at WA
          unfold u8v at hix WA
          go_wp2_with fail
          refine WA.out.mono ?_
          rintro e w4 ⟨rfl, s4, c4⟩
          have C4 : Hid (Chg b w w4) := CJ.out.trans c4
          have S4 : Hid (Byt w4 b (sj.wrN (p + j) v)) := s4
          clear s4 c4
          cases hok : sj.ok
          · have HR2 : Hid (R = (sj.off, false)) := by rw [RN.out, hok]; rfl
            have HW : Hid (sj.wrN (p + j) v = sj.off) := by unfold By.wrN; rw [hok]; rfl
            go_wp2_with fail
            go_ret
            exact ⟨by rw [HR2.out]; rfl, by rw [HR2.out, ← HW.out]; exact S4.out, C4.out⟩
          · have HR2 : Hid (R = restW (sj.wr (p + j) v) x p (j + 1)) := by rw [RN.out, hok]; rfl
            have HW : Hid (sj.wrN (p + j) v = sj.wr (p + j) v) := by unfold By.wrN; rw [hok]; rfl
            go_wp2_with fail
            refine ⟨⟨j + 1, by omega, by go_num, sj.wr (p + j) v, by rw [← HW.out]; exact S4.out, HR2.out, wr_left _ _ _ _ LJ.out, C4.out⟩, by simp [intOf]; omega⟩
        · have hj16 : j = 16 := by omega
          have RE : Hid (R = if sj.ok then (sj.wr (p + 16) 165, true) else (sj.off, false)) := by rw [RJ.out, hj16]; exact restW_end sj x p
          have WA : Hid (Calls Tryd.prog 53 #[.pointer (some ⟨b, 0, none⟩), .int .i64 (p + 16 : Nat), u8v 165] wr fun e w' => e = .returned (.bool sj.ok) ∧ Byt w' b (sj.wrN (p + 16) 165) ∧ Chg b wr w') := write_any b (p + 16) (by omega) 165 sj wr SJ.out LJ.out
          rw [Int.natCast_add] at WA
          clear hj16
          go_wp2_with fail
          refine WA.out.mono ?_
          rintro e w4 ⟨rfl, s4, c4⟩
          have C4 : Hid (Chg b w w4) := CJ.out.trans c4
          have S4 : Hid (Byt w4 b (sj.wrN (p + 16) 165)) := s4
          clear s4 c4
          go_wp2_with fail
          go_ret
          refine ⟨?_, ?_, C4.out⟩
          · rw [RE.out]; cases sj.ok <;> rfl
          · have h4 := S4.out
            unfold By.wrN at h4
            rw [RE.out]
            cases hok : sj.ok <;> rw [hok] at h4 <;> exact h4
end Go.Proofs.YthmnmdikpccenacDoor
