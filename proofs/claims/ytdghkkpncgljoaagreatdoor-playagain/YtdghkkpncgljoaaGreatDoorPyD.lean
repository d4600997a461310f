/-
  Package play's step: an act's error as a number.
-/
import Derived.Test.YtdghkkpncgljoaaGreatDoorPyC
import Derived.Test.YtdghkkpncgljoaaGreatDoorKv
namespace Go.Proofs.YtdghkkpncgljoaaGreatDoor
open Go.RowKit

theorem code_terr (c : Nat) (hc : c ≤ 11) (s : Nat → Addr) (w : World) (S : Sents w s) :
    Calls Tryz.prog 47 #[terr s c] w fun e w' => e = .returned (.tuple #[.int .i64 c, .int .i64 (-1)]) ∧ Below w.heap.size w w' := by
  cases c with
  | zero =>
    refine (code_nil w).mono ?_
    rintro e w' ⟨rfl, rfl⟩
    exact ⟨rfl, Below.refl _ _⟩
  | succ k =>
    refine (code_sent k (by omega) s w S).mono ?_
    rintro e w' ⟨rfl, hb⟩
    exact ⟨by rw [show (((k + 1 : Nat)) : Int) = (k : Int) + 1 by omega], hb⟩
theorem Sents.m {w : World} {s : Nat → Addr} (S : Sents w s) : SeM w s := ⟨S.c1, S.c2, S.c3, S.c4, S.c5, S.c6, S.c7, S.c8, S.c9, S.c10⟩
theorem upE_le (W : Wo) (n : Int) : W.upE n ≤ 11 := by
  unfold Wo.upE
  split
  · split <;> omega
  · omega
theorem flE_le (W : Wo) (n : Int) : W.flE n ≤ 11 := by unfold Wo.flE; split <;> omega
theorem chk_le (x : No) (p : Pk) : x.chk p ≤ 11 := by
  unfold No.chk Pk.err pkErr
  repeat' split
  all_goals omega
theorem inE_le (x : No) (p : Pk) : x.inE p ≤ 11 := by
  have h1 := chk_le x p
  unfold No.inE
  split
  · unfold No.ouE
    split
    · omega
    · unfold No.bgE
      split
      · split
        · unfold No.addR addT
          repeat' split
          all_goals simp
        · unfold bgnE
          repeat' split
          all_goals omega
      · omega
  · exact h1
theorem otE_le (x : No) (p : Pk) : x.otE p ≤ 11 := by
  have h1 := chk_le x p
  unfold No.otE
  repeat' split
  all_goals omega
theorem chE_le (W : Wo) : W.chE ≤ 11 := by
  unfold Wo.chE
  split
  · omega
  · exact upE_le _ _
theorem tcE_le {i : Nat} {W : Wo} (h : In i W) (hi : i ≤ 100000) (n : Int) : W.tcE n ≤ 11 := by
  have h1 := upE_le W n
  unfold Wo.tcE
  split
  · split
    · rename_i y hy
      rcases (h.up _ y hy).tkE hi with e | e <;> omega
    · omega
  · exact h1
theorem wt_le {n : Int} : ∀ (k : Nat) {i : Nat} {W : Wo}, In i W → i + k ≤ 100000 → (wt n k W).1 ≤ 11
  | 0, _, _, _, _ => by show (0 : Nat) ≤ 11; omega
  | k + 1, i, W, h, hi => by
    unfold wt
    split
    · exact wt_le k (h.tick (by omega) n) (by omega)
    · exact tcE_le h (by omega) n
theorem pac_le {i : Nat} {W : Wo} (h : In i W) (hi : i ≤ 90000) (q k : Int) : (pac W q k).1 ≤ 11 := by
  unfold pac
  split
  · exact flE_le _ _
  split
  · exact flE_le _ _
  split
  · have := flE_le W (W.pk q)
    show W.twE (W.pk q) ≤ 11
    unfold Wo.twE
    repeat' split
    all_goals omega
  split
  · exact tcE_le h (by omega) _
  split
  · exact wt_le 10 h (by omega)
  split
  · show W.inE (pkI q) ≤ 11
    unfold Wo.inE
    split
    · exact inE_le _ _
    · exact chE_le W
  split
  · show W.otE (pkO q) ≤ 11
    unfold Wo.otE
    split
    · exact otE_le _ _
    · exact chE_le W
  split
  · exact upE_le _ _
  split
  · show W.roE (q % 2) ≤ 11
    unfold Wo.roE
    repeat' split
    all_goals omega
  split
  · have := upE_le W (q % 2)
    show W.ctE (q % 2) (q / 2 % 30) ≤ 11
    unfold Wo.ctE
    split
    · split
      · unfold cutE
        repeat' split
        all_goals omega
      · omega
    · exact this
  · show (0 : Nat) ≤ 11
    omega
/-- a step of a play: its answer, and what becomes of the world. -/
def stA (W : Wo) (v : Int) : Int := if v < 0 then -1 else ((pac W (v / 16) (v % 16)).1 : Int)
def stW (W : Wo) (v : Int) : Wo := if v < 0 then W else (pac W (v / 16) (v % 16)).2
theorem In.stW {i : Nat} {W : Wo} (h : In i W) (hi : i ≤ 90000) (hr : RulesOk W.ru) (v : Int) : In (i + 10) (stW W v) := by
  unfold Go.Proofs.YtdghkkpncgljoaaGreatDoor.stW
  split
  · exact h.mono (by omega)
  · exact h.pac hi hr _ _
set_option maxRecDepth 100000 in
set_option maxHeartbeats 1000000 in
theorem pstep_any {w0 w : World} {K : WK} {W : Wo} {t i : Nat} {s : Nat → Addr} (S : Sents w0 s) (F : PyF w0) (h : Wd w0 w K W t) (hI : In i W) (hi : i ≤ 90000) (ht : t ≤ 2600) (hy : ∀ j, j < 2 → ∃ b, K.yk j = some b) (v : Int) (v1 : v ≤ 9223372036854775807) :
    Calls Tryz.prog 24 #[.pointer (some ⟨K.wb, 0, none⟩), .int .i64 v] w fun e w' => e = .returned (.int .i64 (stA W v)) ∧ ∃ K', Wd w0 w' K' (stW W v) (t + 10) ∧ Mv K K' w w' := by
  by_cases h0 : v < 0
  · have HA : Hid (stA W v = -1 ∧ stW W v = W) := ⟨if_pos h0, if_pos h0⟩
    have HW : Hid (Wd w0 w K W t) := h
    clear h S F hI hi ht hy
    go_enter Tryz.func24, Tryz.ntmps24
    go_wp2_with fail
    go_ret
    exact ⟨by rw [HA.out.1]; rfl, K, by rw [HA.out.2]; exact HW.out.mono (by omega), Mv.of (Below.refl _ _)⟩
  · have v0 : 0 ≤ v := by omega
    have HA : Hid (stA W v = ((pac W (v / 16) (v % 16)).1 : Int) ∧ stW W v = (pac W (v / 16) (v % 16)).2 ∧ (pac W (v / 16) (v % 16)).1 ≤ 11) := ⟨if_neg h0, if_neg h0, pac_le hI hi _ _⟩
    have HC : Hid (Calls Tryz.prog 48 #[.pointer (some ⟨K.wb, 0, none⟩), .int .i64 (v / 16), .int .i64 (v % 16)] w fun e w' => PacV w0 w K s t (pac W (v / 16) (v % 16)) e w') := pact_any S.m F h hI hi ht hy (v / 16) (by omega) (by omega) (v % 16) (by omega) (by omega)
    have HS : Hid (Sents w0 s) := S
    clear h S F hI hi ht hy h0
    go_enter Tryz.func24, Tryz.ntmps24
    go_wp2_with fail
    refine HC.out.mono ?_
    rintro e w2 ⟨rfl, K2, wd2, m2⟩
    have W2 : Hid (Wd w0 w2 K2 (pac W (v / 16) (v % 16)).2 (t + 10) ∧ Mv K K2 w w2) := ⟨wd2, m2⟩
    clear wd2 m2 HC
    obtain ⟨c, hc⟩ : ∃ c, c = (pac W (v / 16) (v % 16)).1 := ⟨_, rfl⟩
    have HCC : Hid (c = (pac W (v / 16) (v % 16)).1) := hc
    rw [← hc]
    clear hc
    go_wp2_with fail
    refine (code_terr c (by rw [HCC.out]; exact HA.out.2.2) s w2 (HS.out.below W2.out.1.bl)).mono ?_
    rintro e w3 ⟨rfl, b3⟩
    have W3 : Hid (Wd w0 w3 K2 (pac W (v / 16) (v % 16)).2 (t + 10) ∧ Mv K K2 w w3) := ⟨W2.out.1.below b3, W2.out.2.then b3⟩
    clear b3 W2
    go_wp2_with fail
    go_ret
    exact ⟨by rw [HA.out.1, HCC.out]; rfl, K2, by rw [HA.out.2.1]; exact W3.out.1, W3.out.2⟩
end Go.Proofs.YtdghkkpncgljoaaGreatDoor
