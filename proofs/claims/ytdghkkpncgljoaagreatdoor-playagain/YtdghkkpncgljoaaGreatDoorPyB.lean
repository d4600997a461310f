/-
  Package play's acts: pick, wait, act.
-/
import Derived.Test.YtdghkkpncgljoaaGreatDoorPyA
import Derived.Test.YtdghkkpncgljoaaGreatDoorKq
import Derived.Test.YtdghkkpncgljoaaGreatDoorWoTw
import Derived.Test.YtdghkkpncgljoaaGreatDoorWoMy
namespace Go.Proofs.YtdghkkpncgljoaaGreatDoor
open Go.RowKit

/-- which note is meant. -/
def Wo.pk (W : Wo) (q : Int) : Int := if W.fl.length = 0 then 0 else q % (W.fl.length : Int)
theorem pick_any {w : World} {K : WK} {W : Wo} (hb : WdB w K W) (hf : FlP w K W) (q : Int) (q0 : 0 ≤ q) (q1 : q ≤ 9223372036854775807) : Calls Tryz.prog 62 #[.pointer (some ⟨K.wb, 0, none⟩), .int .i64 q] w fun e w' => e = .returned (.int .i64 (W.pk q)) ∧ w' = w := by
  have HM : Hid (Calls Tryz.prog 93 #[.pointer (some ⟨K.wb, 0, none⟩)] w fun e w' => e = .returned (.int .i64 W.fl.length) ∧ w' = w) := many_wd hb hf
  have hle := hf.le
  clear hb hf
  go_enter Tryz.func62, Tryz.ntmps62
  go_wp2_with fail
  refine HM.out.mono ?_
  rintro e w2 ⟨rfl, hw⟩
  obtain rfl := hw.symm
  clear hw
  by_cases h : W.fl.length = 0
  · have HE : Hid (W.pk q = 0) := if_pos h
    rw [h]
    clear h
    go_wp2_with fail
    go_ret
    exact ⟨by rw [HE.out]; rfl, rfl⟩
  · have HE : Hid (W.pk q = q % (W.fl.length : Int)) := if_neg h
    have h1 : ((W.fl.length : Int) == 0) = false := beq_eq_false_iff_ne.2 (by omega)
    have h2 : (0 : Int) < (W.fl.length : Int) := by omega
    have h3 : ¬ (W.fl.length : Int) = 0 := by omega
    have h4 : (W.fl.length : Int) ≤ 200 := by omega
    clear h
    go_wp2_with fail
    refine HM.out.mono ?_
    rintro e w2 ⟨rfl, hw⟩
    obtain rfl := hw.symm
    clear hw
    go_wp2_with fail
    go_ret
    refine ⟨?_, rfl⟩
    rw [HE.out]
    first | rfl | simp [Int.tmod_eq_emod_of_nonneg q0]
/-- so many ticks, until one has an error. -/
def wt (n : Int) : Nat → Wo → Nat × Wo
  | 0, W => (0, W)
  | k + 1, W => if W.tcE n = 0 then wt n k (W.tcd n) else (W.tcE n, W.tcd n)
theorem In.wt {n : Int} : ∀ (k : Nat) {q : Nat} {W : Wo}, In q W → q + k ≤ 100000 → In (q + k) (wt n k W).2
  | 0, _, _, h, _ => h
  | k + 1, q, W, h, hq => by
    unfold Go.Proofs.YtdghkkpncgljoaaGreatDoor.wt
    split
    · have := In.wt (n := n) k (h.tick (by omega) n) (by omega)
      rw [show q + (k + 1) = q + 1 + k by omega]
      exact this
    · exact (h.tick (by omega) n).mono (by omega)
set_option maxRecDepth 100000 in
set_option maxHeartbeats 1000000 in
theorem wait_wd {w0 w : World} {K : WK} {W : Wo} {t q : Nat} {s : Nat → Addr} (S : SeM w0 s) (h : Wd w0 w K W t) (hI : In q W) (hq : q ≤ 90000) (ht : t ≤ 2600) (n : Int) :
    Calls Tryz.prog 65 #[.pointer (some ⟨K.wb, 0, none⟩), .int .i64 n] w fun e w' => e = .returned (terr s (wt n 10 W).1) ∧ ∃ K', Wd w0 w' K' (wt n 10 W).2 (t + 10) ∧ Mv K K' w w' := by
  have HS : Hid (SeM w0 s) := S
  have HW : Hid (Wd w0 w K W t ∧ In q W ∧ q ≤ 90000 ∧ t ≤ 2600) := ⟨h, hI, hq, ht⟩
  clear S h hI hq ht
  go_enter Tryz.func65, Tryz.ntmps65
  go_wp2_with fail
  go_loopw [5, 6] (fun _ tv u => ∃ r : Nat, r ≤ 10 ∧ tv = .int .i64 r ∧ ∃ K' V, Wd w0 u K' V (t + r) ∧ In (q + r) V ∧ wt n 10 W = wt n (10 - r) V ∧ Mv K K' w u) (fun _ tv _ => 10 - (intOf tv).toNat)
  case atStart => exact ⟨0, by omega, rfl, K, W, HW.out.1, HW.out.2.1, rfl, Mv.of (Below.refl _ _)⟩
  case round =>
    obtain ⟨r, hr, rfl, K', V, wd, hI, he, mv⟩ := hrel
    have WR : Hid (Wd w0 wr K' V (t + r) ∧ In (q + r) V ∧ Mv K K' w wr) := ⟨wd, hI, mv⟩
    have HE : Hid (wt n 10 W = wt n (10 - r) V) := he
    clear wd hI he mv
    by_cases hlt : r < 10
    · have r1 : (r : Int) < 10 := by omega
      have HR : Hid (r < 10) := hlt
      go_wp2_with fail
      have htick := tick_wd HS.out WR.out.1 (by have := HW.out; omega) n (fun i y _ hy => (WR.out.2.1.up i y hy).tkE (by have := HW.out; omega))
      rw [WR.out.2.2.wb] at htick
      refine htick.mono ?_
      clear htick
      rintro e w2 ⟨rfl, K2, wd2, m2⟩
      have W2 : Hid (Wd w0 w2 K2 (V.tcd n) (t + r + 1) ∧ In (q + r + 1) (V.tcd n) ∧ Mv K K2 w w2) := ⟨wd2, WR.out.2.1.tick (by have := HW.out; have := HR.out; omega) n, WR.out.2.2.trans m2⟩
      have HST : Hid (wt n (10 - r) V = if V.tcE n = 0 then wt n (10 - (r + 1)) (V.tcd n) else (V.tcE n, V.tcd n)) := by
        have e10 : 10 - r = 10 - (r + 1) + 1 := by have := HR.out; omega
        show wt n (10 - r) V = _
        rw [e10]
        rfl
      clear wd2 m2
      cases hc : V.tcE n with
      | zero =>
        have HNX : Hid (wt n 10 W = wt n (10 - (r + 1)) (V.tcd n)) := by show _ = _; rw [HE.out, HST.out, if_pos hc]
        clear hc
        simp only [terr]
        go_wp2_with fail
        exact ⟨⟨r + 1, by omega, by go_num, K2, V.tcd n, W2.out.1, W2.out.2.1, HNX.out, W2.out.2.2⟩, by simp [intOf]; omega⟩
      | succ c =>
        have HNX : Hid (wt n 10 W = (c + 1, V.tcd n)) := by show _ = _; rw [HE.out, HST.out, if_neg (by omega), hc]
        clear hc
        simp only [terr]
        go_wp2_with fail
        go_ret
        exact ⟨by rw [HNX.out]; rfl, K2, by rw [HNX.out]; exact W2.out.1.mono (by have := HR.out; omega), W2.out.2.2⟩
    · obtain rfl : r = 10 := by omega
      have HNX : Hid (wt n 10 W = (0, V)) := by show _ = _; rw [HE.out]; rfl
      go_wp2_with fail
      go_ret
      exact ⟨by rw [HNX.out]; rfl, K', by rw [HNX.out]; exact WR.out.1, WR.out.2.2⟩
/-- an act of a play: its error, and what becomes of the world. -/
def pac (W : Wo) (q k : Int) : Nat × Wo :=
  if k ≤ 2 then (W.flE (W.pk q), W.dlv (W.pk q))
  else if k = 3 then (W.flE (W.pk q), W.dropped (W.pk q))
  else if k = 4 then (W.twE (W.pk q), W.twiced (W.pk q))
  else if k ≤ 6 then (W.tcE (q % 2), W.tcd (q % 2))
  else if k = 7 then wt (q % 2) 10 W
  else if k ≤ 9 then (W.inE (pkI q), W.ins (pkI q))
  else if k ≤ 11 then (W.otE (pkO q), W.ots (pkO q))
  else if k = 12 then (W.upE (q % 2), W.downed (q % 2))
  else if k = 13 then (W.roE (q % 2), W.upped (q % 2))
  else if k = 14 then (W.ctE (q % 2) (q / 2 % 30), W.cutted (q % 2) (q / 2 % 30))
  else (0, W)
theorem In.twice' {q : Nat} {W : Wo} (h : In q W) (n : Int) : In q (W.twiced n) := by
  have s := W.twiced_same n
  refine ⟨fun i x hx => h.up i x (by rw [← s.1]; exact hx), fun i hi hn => ?_, fun t ht => h.fl t (Wo.twiced_mem t ht)⟩
  rw [s.2.1]
  exact h.dn i hi (by rw [← s.1]; exact hn)
theorem In.pac {i : Nat} {W : Wo} (h : In i W) (hi : i ≤ 90000) (hr : RulesOk W.ru) (q k : Int) : In (i + 10) (pac W q k).2 := by
  unfold Go.Proofs.YtdghkkpncgljoaaGreatDoor.pac
  split
  · exact (h.dlv _).mono (by omega)
  split
  · exact (h.drop _).mono (by omega)
  split
  · exact (h.twice' _).mono (by omega)
  split
  · exact (h.tick (by omega) _).mono (by omega)
  split
  · exact h.wt 10 (by omega)
  split
  · exact (h.inside _).mono (by omega)
  split
  · exact (h.outside _).mono (by omega)
  split
  · exact (h.down _).mono (by omega)
  split
  · exact (h.upN (by omega) hr _).mono (by omega)
  split
  · exact (h.cut _ _).mono (by omega)
  · exact h.mono (by omega)
end Go.Proofs.YtdghkkpncgljoaaGreatDoor
