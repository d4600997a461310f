/-
  The document's write of bytes.
-/
import Derived.Test.YtdkfjjamfefcaabDoorCaC
import Derived.Test.YtdkfjjamfefcaabDoorCeL
import Derived.Deep.RegionHeld3
namespace Go.Proofs.YtdkfjjamfefcaabDoor
open Go.RowKit

theorem seqW_take : ∀ (L : List UInt8) (a j : Nat), (seqW a L).take j = seqW a (L.take j)
  | [], a, j => by simp [seqW]
  | v :: L, a, 0 => by simp [seqW]
  | v :: L, a, j + 1 => by simp [seqW, seqW_take L (a + 1) j]
def spl (B L : List UInt8) (p : Nat) : List UInt8 := B.take p ++ (L ++ B.drop (p + L.length))
theorem wrs_seq (s : By) (p : Nat) (L : List UInt8) (hL : L ≠ []) (hl : p + L.length ≤ s.B.length) : wrs s (seqW p L) =
    if s.on = true then (if s.cut = false ∨ L.length ≤ s.left then (⟨spl s.B L p, true, s.cut, if s.cut then s.left - L.length else s.left⟩, true) else (⟨spl s.B (L.take s.left) p, false, s.cut, 0⟩, false)) else (s, false) := by
  have hne : seqW p L ≠ [] := fun e => hL (List.length_eq_zero_iff.1 (by rw [← seqW_len L p, e]; rfl))
  rw [wrs_eq, seqW_len]
  by_cases ho : s.on = true
  · rw [if_pos ho]
    by_cases hc : s.cut = false ∨ L.length ≤ s.left
    · rw [if_pos ⟨ho, hc⟩, if_pos hc, app_seq _ _ _ hl]
      rfl
    · rw [if_neg (fun h => hc h.2), if_neg hc, if_pos (.inl ho), if_neg hne, seqW_take, app_seq _ _ _ (by rw [List.length_take]; omega)]
      rfl
  · rw [if_neg ho, if_neg (fun h => ho h.1), if_neg (by simp [ho, hne])]
theorem splice_eq (B L : List UInt8) (p n : Nat) (hn : n ≤ L.length) : (stB B).extract 0 p ++ (stB L).extract 0 n ++ (stB B).extract (p + n) B.length = stB (spl B (L.take n) p) := by
  apply ByteArray.ext
  apply Array.ext'
  simp [stB, spl, ByteArray.data_append, ByteArray.data_extract, hn, Nat.min_eq_left]
  exact List.take_of_length_le (by rw [List.length_drop]; exact Nat.le_refl _)
theorem RBy.drew {w : World} {n : Nat} {s : By} {lv : Int} (h : RBy w n s lv) : RBy w.drew n s lv := h
set_option maxRecDepth 100000 in
set_option maxHeartbeats 4000000 in
theorem rwrite_on (n p : Nat) (L : List UInt8) (s : By) (lv : Int) (w : World) (R : RBy w n s lv) (hB : s.B.length = 64) (hp : p + L.length ≤ 64) (h1 : s.on = true) (h2 : s.cut = false ∨ (L.length : Int) ≤ lv) (h3 : -9223372036854770000 ≤ lv) (h4 : lv ≤ 9223372036854775807) :
    Calls Tryd.prog 96 #[.pointer (some ⟨n, 0, none⟩), .int .i64 p, .string (stB L)] w fun e w' => e = .returned (.bool true) ∧ RBy w' n ⟨spl s.B L p, true, s.cut, s.left⟩ (lv - L.length) ∧ Chg n w w' := by
  have HR : Hid (RBy w n s lv) := R
  have hS : w.drew.cell? ⟨n, 0, none⟩ = some (.string (stB s.B)) ∧ w.drew.frozen? ⟨n, 0, none⟩ = false := ⟨R.c0, R.fr 0⟩
  have c1 := R.c1
  have c2 := R.c2
  have c3 := R.c3
  have f := fun i => R.fr i
  have HSP : Hid ((stB s.B).extract 0 p ++ (stB L).extract 0 L.length ++ (stB s.B).extract (p + L.length) 64 = stB (spl s.B L p)) := by
    have := splice_eq s.B L p L.length (Nat.le_refl _)
    rw [List.take_length, hB] at this
    exact this
  have zS : (stB s.B).size = 64 := hB
  have zV : (stB L).size = L.length := rfl
  rw [h1] at c1
  clear R
  generalize stB s.B = S at *
  generalize stB L = V at *
  generalize L.length = m at *
  have g1 : (p : Int) ≤ 64 := by omega
  have g2 : (p : Int) + (m : Int) ≤ 64 := by omega
  have hw : IntKind.i64.wrap ((p : Int) + (m : Int)) = (p : Int) + (m : Int) := by rw [IntKind.wrap_i64]; omega
  have g3 : (0 : Int) ≤ (p : Int) + (m : Int) := by omega
  have g4 : ((p : Int) + (m : Int)).toNat = p + m := by omega
  have g6 : ¬ 9223372036854775807 < min p 64 + m + (64 - (p + m)) := by omega
  have c0 := hS.1
  have f0 := hS.2
  clear hS
  have g5 : ¬ 9223372036854775807 < min p 64 + m := by omega
  cases hc : s.cut
  · rw [hc] at c3
    go_enter Tryd.func96, Tryd.ntmps96
    go_wp2_with fail
    go_region
    go_wp2_with fail
    go_ret
    refine ⟨rfl, ?_, ((Chg.set n _ _ _).trans (Chg.set n _ _ _)).then (Below.refl _ _).drew⟩
    rw [HSP.out]
    exact RBy.drew (((HR.out.s0 (spl s.B L p)).s2 (lv - m)).as rfl h1 hc)
  · rw [hc] at c3
    have h5 : ¬ lv < (m : Int) := by
      rcases h2 with h | h
      · rw [hc] at h; cases h
      · omega
    go_enter Tryd.func96, Tryd.ntmps96
    go_wp2_with fail
    go_region
    go_wp2_with fail
    go_ret
    refine ⟨rfl, ?_, ((Chg.set n _ _ _).trans (Chg.set n _ _ _)).then (Below.refl _ _).drew⟩
    rw [HSP.out]
    exact RBy.drew (((HR.out.s0 (spl s.B L p)).s2 (lv - m)).as rfl h1 hc)
set_option maxRecDepth 100000 in
set_option maxHeartbeats 4000000 in
theorem rwrite_cut (n p k : Nat) (L : List UInt8) (s : By) (w : World) (R : RBy w n s k) (hB : s.B.length = 64) (hp : p + L.length ≤ 64) (h1 : s.on = true) (h2 : s.cut = true) (h3 : k < L.length) :
    Calls Tryd.prog 96 #[.pointer (some ⟨n, 0, none⟩), .int .i64 p, .string (stB L)] w fun e w' => e = .returned (.bool false) ∧ RBy w' n ⟨spl s.B (L.take k) p, false, s.cut, 0⟩ 0 ∧ Chg n w w' := by
  have HR : Hid (RBy w n s k) := R
  have c0 := R.c0
  have c1 := R.c1
  have c2 := R.c2
  have c3 := R.c3
  have f := fun i => R.fr i
  have HSP : Hid ((stB s.B).extract 0 p ++ (stB L).extract 0 k ++ (stB s.B).extract (p + k) 64 = stB (spl s.B (L.take k) p)) := by
    have := splice_eq s.B L p k (by omega)
    rw [hB] at this
    exact this
  have zS : (stB s.B).size = 64 := hB
  have zV : (stB L).size = L.length := rfl
  rw [h1] at c1
  rw [h2] at c3
  clear R
  generalize stB s.B = S at *
  generalize stB L = V at *
  have g1 : (p : Int) ≤ 64 := by omega
  have g2 : (p : Int) + (k : Int) ≤ 64 := by omega
  have hw : IntKind.i64.wrap ((p : Int) + (k : Int)) = (p : Int) + (k : Int) := by rw [IntKind.wrap_i64]; omega
  have g3 : (0 : Int) ≤ (p : Int) + (k : Int) := by omega
  have g4 : ((p : Int) + (k : Int)).toNat = p + k := by omega
  have h5 : (k : Int) < (L.length : Int) := by omega
  have g8 : min k L.length = k := by omega
  have g5 : ¬ 9223372036854775807 < min p 64 + k := by omega
  have g6 : ¬ 9223372036854775807 < min p 64 + k + (64 - (p + k)) := by omega
  generalize L.length = m at *
  have g9 : ¬ (m : Int) < (k : Int) := by omega
  have g10 : (k : Int) ≤ (m : Int) := by omega
  go_enter Tryd.func96, Tryd.ntmps96
  go_wp2_with fail
  go_region
  go_wp2_with fail
  go_ret
  refine ⟨rfl, ?_, (((Chg.set n _ _ _).trans (Chg.set n _ _ _)).trans (Chg.set n _ _ _)).then (Below.refl _ _).drew⟩
  rw [HSP.out]
  exact RBy.drew ((((HR.out.s1 false).s0 (spl s.B (L.take k) p)).s2 0).as rfl rfl rfl)
set_option maxRecDepth 100000 in
set_option maxHeartbeats 4000000 in
theorem rwrite_off (n p : Nat) (L : List UInt8) (s : By) (lv : Int) (w : World) (R : RBy w n s lv) (hB : s.B.length = 64) (hp : p + L.length ≤ 64) (h1 : s.on = false) (h3 : -9223372036854770000 ≤ lv) (h4 : lv ≤ 9223372036854775807) :
    Calls Tryd.prog 96 #[.pointer (some ⟨n, 0, none⟩), .int .i64 p, .string (stB L)] w fun e w' => e = .returned (.bool false) ∧ RBy w' n s lv ∧ Chg n w w' := by
  have HR : Hid (RBy w n s lv) := R
  have c0 := R.c0
  have c1 := R.c1
  have c2 := R.c2
  have f := fun i => R.fr i
  have HSP : Hid ((stB s.B).extract 0 (max p 64) = stB s.B) := by
    show _ = _
    rw [show max p 64 = 64 from by omega]
    apply ByteArray.ext
    apply Array.ext'
    simp [stB, ByteArray.data_extract]
    exact List.take_of_length_le (by omega)
  have zS : (stB s.B).size = 64 := hB
  have zV : (stB L).size = L.length := rfl
  rw [h1] at c1
  clear R
  obtain ⟨S, hS⟩ : ∃ S, S = stB s.B := ⟨_, rfl⟩
  rw [← hS] at c0 HSP zS
  have HS : Hid (S = stB s.B) := hS
  clear hS
  generalize stB L = V at *
  have g1 : (p : Int) ≤ 64 := by omega
  have g5 : ¬ 9223372036854775807 < min p 64 := by omega
  have g6 : ¬ 9223372036854775807 < min p 64 + (64 - p) := by omega
  have hw : IntKind.i64.wrap (p : Int) = (p : Int) := by rw [IntKind.wrap_i64]; omega
  go_enter Tryd.func96, Tryd.ntmps96
  go_wp2_with fail
  go_region
  go_wp2_with fail
  go_ret
  refine ⟨rfl, ?_, ((Chg.set n _ _ _).trans (Chg.set n _ _ _)).then (Below.refl _ _).drew⟩
  rw [HSP.out, HS.out]
  exact RBy.drew ((HR.out.s0 s.B).s2 lv)
/-- what the document's write does is what writes one by one do. -/
theorem rwrite_any (n p : Nat) (L : List UInt8) (s : By) (lv : Int) (w : World) (R : RBy w n s lv) (hB : s.B.length = 64) (hp : p + L.length ≤ 64) (hL : L ≠ []) (hc : s.cut = true → lv = s.left) (h3 : -9223372036854770000 ≤ lv) (h4 : lv ≤ 9223372036854775807) :
    Calls Tryd.prog 96 #[.pointer (some ⟨n, 0, none⟩), .int .i64 p, .string (stB L)] w fun e w' => e = .returned (.bool (wrs s (seqW p L)).2) ∧ (∃ lv', RBy w' n (wrs s (seqW p L)).1 lv' ∧ ((wrs s (seqW p L)).1.cut = true → lv' = (wrs s (seqW p L)).1.left) ∧ lv - L.length ≤ lv' ∧ lv' ≤ lv) ∧ Chg n w w' := by
  rw [wrs_seq s p L hL (by omega)]
  by_cases h1 : s.on = true
  · rw [if_pos h1]
    by_cases h2 : s.cut = false ∨ L.length ≤ s.left
    · rw [if_pos h2]
      refine (rwrite_on n p L s lv w R hB hp h1 ?_ h3 h4).mono ?_
      · rcases h2 with h | h
        · exact .inl h
        · cases hcc : s.cut
          · exact .inl rfl
          · exact .inr (by rw [hc hcc]; omega)
      · rintro e w' ⟨rfl, r, c⟩
        refine ⟨rfl, ⟨_, r.as rfl rfl rfl, ?_, Int.le_refl _, by omega⟩, c⟩
        intro hcc
        have hcc : s.cut = true := hcc
        show lv - L.length = ((if s.cut = true then s.left - L.length else s.left : Nat) : Int)
        rcases h2 with h | h
        · rw [h] at hcc; cases hcc
        · rw [if_pos hcc, hc hcc]; omega
    · rw [if_neg h2]
      have hcc : s.cut = true := by
        cases h : s.cut
        · exact absurd (.inl h) h2
        · rfl
      have hlt : s.left < L.length := by
        rcases Nat.lt_or_ge s.left L.length with h | h
        · exact h
        · exact absurd (.inr h) h2
      rw [hc hcc] at R
      refine (rwrite_cut n p s.left L s w R hB hp h1 hcc hlt).mono ?_
      rintro e w' ⟨rfl, r, c⟩
      refine ⟨rfl, ⟨0, r, fun _ => rfl, ?_, ?_⟩, c⟩
      · rw [hc hcc]; omega
      · rw [hc hcc]; omega
  · rw [if_neg h1]
    refine (rwrite_off n p L s lv w R hB hp (by simpa using h1) h3 h4).mono ?_
    rintro e w' ⟨rfl, r, c⟩
    exact ⟨rfl, ⟨lv, r, hc, by omega, Int.le_refl _⟩, c⟩
end Go.Proofs.YtdkfjjamfefcaabDoor
