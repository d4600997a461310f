/-
  Package policy's Same.
-/
import Derived.Test.YtgmdnooknnikfaaDoorPsB
import Derived.Test.YtgmdnooknnikfaaDoorPsC
import Derived.Laws.EntriesVeiled
namespace Go.Proofs.YtgmdnooknnikfaaDoor
open Go.RowKit

theorem ChkV.below {s : Nat → Addr} {w w' : World} {l : List Rl} {v : Value} (h : ChkV s w l v) (hb : Below w.heap.size w w') : ChkV s w' l v := by
  rcases h with h | h | ⟨h1, i, g, h2, h3, h4, h5⟩
  · exact .inl h
  · exact .inr (.inl h)
  · exact .inr (.inr ⟨h1, i, g, h2, h3, Below.keeps hb h4, Below.keeps hb h5⟩)
/-- what Same answers. -/
def SameV (s : Nat → Addr) (w : World) (a b : List Rl) (v : Value) (x : Bool) : Prop :=
  (¬ RulesOk a ∧ ChkV s w a v ∧ x = false) ∨ (RulesOk a ∧ ¬ RulesOk b ∧ ChkV s w b v ∧ x = false) ∨ (RulesOk a ∧ RulesOk b ∧ v = .nilIface ∧ x = sameL a b)
theorem chk_ok {s : Nat → Addr} {w : World} {l : List Rl} {v : Value} (h : ChkV s w l v) : (RulesOk l ∧ v = .nilIface) ∨ (¬ RulesOk l ∧ ∃ t a, v = .iface t (.pointer (some a))) := by
  rcases h with ⟨h1, rfl⟩ | ⟨h1, h2, rfl⟩ | ⟨h1, i, g, h2, rfl, _⟩
  · exact .inr ⟨fun h => by have := h.1; omega, _, _, rfl⟩
  · exact .inl ⟨⟨h1, h2⟩, rfl⟩
  · exact .inr ⟨fun h => absurd (h2.symm.trans h.2) (by simp), _, _, rfl⟩
/-- which way, by place. -/
def ouA (i : Nat) : Bool := i == 0
def prA (k : Nat) : Int := (k : Int) + 1
theorem Tryd.idxO0 (w : World) : (Instr.index 80 (.agg #[.bool true, .bool false]) (.int .i64 0)).run Tryd.prog w = .ok (.bool true) w := by kernel_rfl
theorem Tryd.idxO1 (w : World) : (Instr.index 80 (.agg #[.bool true, .bool false]) (.int .i64 1)).run Tryd.prog w = .ok (.bool false) w := by kernel_rfl
theorem Tryd.idxP0 (w : World) : (Instr.index 81 (.agg #[.int .i64 1, .int .i64 2]) (.int .i64 0)).run Tryd.prog w = .ok (.int .i64 1) w := by kernel_rfl
theorem Tryd.idxP1 (w : World) : (Instr.index 81 (.agg #[.int .i64 1, .int .i64 2]) (.int .i64 1)).run Tryd.prog w = .ok (.int .i64 2) w := by kernel_rfl
theorem Tryd.idxO (i : Nat) (hi : i < 2) (w : World) : (Instr.index 80 (.agg #[.bool true, .bool false]) (.int .i64 i)).run Tryd.prog w = .ok (.bool (ouA i)) w := by
  have h : i = 0 ∨ i = 1 := by omega
  rcases h with rfl | rfl
  · exact Tryd.idxO0 w
  · exact Tryd.idxO1 w
theorem Tryd.idxP (k : Nat) (hk : k < 2) (w : World) : (Instr.index 81 (.agg #[.int .i64 1, .int .i64 2]) (.int .i64 k)).run Tryd.prog w = .ok (.int .i64 (prA k)) w := by
  have h : k = 0 ∨ k = 1 := by omega
  rcases h with rfl | rfl
  · exact Tryd.idxP0 w
  · exact Tryd.idxP1 w
theorem sameL_all {a b : List Rl} (h : ∀ i k, i < 2 → k < 2 → sameAt a b (ouA i) (prA k) = true) : sameL a b = true := by
  unfold sameL
  have h1 := h 0 0 (by omega) (by omega)
  have h2 := h 0 1 (by omega) (by omega)
  have h3 := h 1 0 (by omega) (by omega)
  have h4 := h 1 1 (by omega) (by omega)
  simp only [ouA, prA] at h1 h2 h3 h4
  have e1 : sameAt a b true 1 = true := h1
  have e2 : sameAt a b true 2 = true := h2
  have e3 : sameAt a b false 1 = true := h3
  have e4 : sameAt a b false 2 = true := h4
  rw [e1, e2, e3, e4]; rfl
theorem sameL_not {a b : List Rl} {i k : Nat} (hi : i < 2) (hk : k < 2) (h : sameAt a b (ouA i) (prA k) = false) : sameL a b = false := by
  unfold sameL
  match i, k, hi, hk with
  | 0, 0, _, _ => have e : sameAt a b true 1 = false := h; rw [e]; rfl
  | 0, 1, _, _ => have e : sameAt a b true 2 = false := h; rw [e]; simp
  | 1, 0, _, _ => have e : sameAt a b false 1 = false := h; rw [e]; simp
  | 1, 1, _, _ => have e : sameAt a b false 2 = false := h; rw [e]; simp
theorem sameAt_any (a b : List Rl) (ou : Bool) (pr : Int) : ((edgesL a ++ edgesL b).any fun x => adm a pr ou x != adm b pr ou x) = !sameAt a b ou pr := by
  unfold sameAt
  rw [List.not_all_eq_any_not]
  congr 1

set_option maxRecDepth 100000 in
set_option maxHeartbeats 4000000 in
theorem same_any (p q : Option Addr) (a b : List Rl) (ca cb : Nat) (s : Nat → Addr) (w : World) (S : Sen w s) (Ra : Rul w p a) (Rb : Rul w q b) (la : a.length ≤ 1000) (lb : b.length ≤ 1000) :
    Calls Tryd.prog 16 #[.slice p a.length ca, .slice q b.length cb] w fun e w' => (∃ v x, e = .returned (.tuple #[.bool x, v]) ∧ SameV s w' a b v x) ∧ Below w.heap.size w w' := by
  have HS : Hid (Sen w s) := S
  have HA : Hid (Rul w p a) := Ra
  have HB : Hid (Rul w q b) := Rb
  clear S Ra Rb
  go_enter Tryd.func16, Tryd.ntmps16
  go_wp2_with fail
  refine (pcheck_any p a ca s _ HS.out HA.out la).mono ?_
  rintro e w1 ⟨⟨v1, rfl, hv1⟩, hb1⟩
  have V1 : Hid (ChkV s w1 a v1) := hv1
  have B1 : Hid (Below w.heap.size w w1) := hb1
  clear hv1 hb1
  rcases chk_ok V1.out with ⟨hka, rfl⟩ | ⟨hna, t, x, rfl⟩
  rotate_left
  · have HN : Hid (¬ RulesOk a) := hna
    clear hna
    go_wp2_with fail
    go_ret2
    exact ⟨⟨_, _, rfl, .inl ⟨HN.out, V1.out, rfl⟩⟩, B1.out⟩
  have KA : Hid (RulesOk a) := hka
  clear hka V1
  go_wp2_with fail
  refine (pcheck_any q b cb s _ (HS.out.below B1.out) (HB.out.below B1.out) lb).mono ?_
  rintro e w2 ⟨⟨v2, rfl, hv2⟩, hb2⟩
  have V2 : Hid (ChkV s w2 b v2) := hv2
  have B2 : Hid (Below w.heap.size w w2) := below2 B1.out hb2
  clear hv2 hb2
  rcases chk_ok V2.out with ⟨hkb, rfl⟩ | ⟨hnb, t, x, rfl⟩
  rotate_left
  · have HN : Hid (¬ RulesOk b) := hnb
    clear hnb
    go_wp2_with fail
    go_ret2
    exact ⟨⟨_, _, rfl, .inr (.inl ⟨KA.out, HN.out, V2.out, rfl⟩)⟩, B2.out⟩
  have KB : Hid (RulesOk b) := hkb
  have la2 : a.length ≤ 20 := KA.out.1
  have lb2 : b.length ≤ 20 := hkb.1
  clear hkb V2 la lb
  go_wp2_with fail
  refine (edges_any p a ca _ (HA.out.below B2.out) (chkAt_none.1 KA.out.2) (by omega)).mono ?_
  rintro e w3 ⟨⟨v3, rfl, hI3⟩, hb3⟩
  have I3 : Hid (Ints w3 v3 (edgesL a)) := hI3
  have B3 : Hid (Below w.heap.size w w3) := below2 B2.out hb3
  clear hI3 hb3
  go_wp2_with fail
  refine (edges_any q b cb _ (HB.out.below B3.out) (chkAt_none.1 KB.out.2) (by omega)).mono ?_
  rintro e w4 ⟨⟨v4, rfl, hI4⟩, hb4⟩
  have I4 : Hid (Ints w4 v4 (edgesL b)) := hI4
  have J4 : Hid (Ints w4 v3 (edgesL a)) := I3.out.below hb4
  have B4 : Hid (Below w.heap.size w w4) := below2 B3.out hb4
  obtain ⟨p3, k3, rfl⟩ := I3.out.open
  obtain ⟨p4, k4, rfl⟩ := I4.out.open
  clear hI4 hb4 I3
  have b5 : Hid (Below w4.heap.size w4 (w4.alloc (.cells #[.slice p3 (edgesL a).length k3, .slice p4 (edgesL b).length k4] 22))) := (Below.refl _ _).alloc (Nat.le_refl _) _
  go_wp2_with fail
  refine (concat_any w4.heap.size _ _ (edgesL a) (edgesL b) _ (J4.out.below b5.out) (I4.out.below b5.out) (by simp) (by simp) (by rw [edges_len]; omega) (by rw [edges_len]; omega)).mono ?_
  rintro e w5 ⟨⟨v5, rfl, hI5⟩, hb5⟩
  have I5 : Hid (Ints w5 v5 (edgesL a ++ edgesL b)) := hI5
  have B5 : Hid (Below w.heap.size w w5) := below2 (below2 B4.out b5.out) hb5
  have hx : (edgesL a ++ edgesL b).length ≤ 10000 := by rw [List.length_append, edges_len, edges_len]; omega
  clear hI5 hb5 J4 I4
  go_wp2_with fail
  go_loopw [32] (fun t wr => ∃ i : Nat, i ≤ 2 ∧ t = .int .i64 i ∧ (∀ i' k, i' < i → k < 2 → sameAt a b (ouA i') (prA k) = true) ∧ Below w5.heap.size w5 wr) (fun t _ => 2 - (intOf t).toNat)
  case atStart => exact ⟨0, Nat.zero_le _, rfl, fun i' k h => absurd h (by omega), Below.refl _ _⟩
  case round =>
    obtain ⟨i, hi, rfl, hall, hbr⟩ := hrel
    have HALL : Hid (∀ i' k, i' < i → k < 2 → sameAt a b (ouA i') (prA k) = true) := hall
    have HBR : Hid (Below w5.heap.size w5 wr) := hbr
    clear hall hbr
    by_cases hlt : i < 2
    · have iO := Tryd.idxO i hlt
      go_wp2_with fail
      clear iO
      rw [show decide ((i : Int) < 2) = true from decide_eq_true (by omega)]
      go_loopw [36] (fun t ws => ∃ k : Nat, k ≤ 2 ∧ t = .int .i64 k ∧ (∀ k', k' < k → sameAt a b (ouA i) (prA k') = true) ∧ Below w5.heap.size w5 ws) (fun t _ => 2 - (intOf t).toNat)
      case atStart => exact ⟨0, Nat.zero_le _, rfl, fun k' h => absurd h (by omega), HBR.out⟩
      case round =>
        obtain ⟨k, hk, rfl, hin, hbs⟩ := hrel
        have HIN : Hid (∀ k', k' < k → sameAt a b (ouA i) (prA k') = true) := hin
        have HBS : Hid (Below w5.heap.size w5 wr) := hbs
        clear hin hbs
        by_cases hlk : k < 2
        · have iP := Tryd.idxP k hlk
          have B6 : Hid (Below w.heap.size w wr) := below2 B5.out HBS.out
          go_wp2_with fail
          clear iP
          refine (admitter_at wr.heap.size p a.length ca (prA k) (ouA i) _ rfl).mono ?_
          rintro e w7 ⟨rfl, hF7, hb7⟩
          have F7 : Hid (AdmF w7 wr.heap.size p a.length ca (prA k) (ouA i)) := hF7
          have B7 : Hid (Below wr.heap.size wr w7) := hb7
          clear hF7 hb7
          go_wp2_with fail
          refine (admitter_at w7.heap.size q b.length cb (prA k) (ouA i) _ rfl).mono ?_
          rintro e w8 ⟨rfl, hF8, hb8⟩
          have F8 : Hid (AdmF w8 w7.heap.size q b.length cb (prA k) (ouA i)) := hF8
          have G8 : Hid (AdmF w8 wr.heap.size p a.length ca (prA k) (ouA i)) := F7.out.below hb8
          have B8 : Hid (Below wr.heap.size wr w8) := below2 B7.out hb8
          clear hF8 hb8
          unfold admFn
          go_wp2_with fail
          have b9 : Hid (Below w8.heap.size w8 ((w8.alloc (.cells #[admFn wr.heap.size] 76)).alloc (.cells #[admFn w7.heap.size] 76))) := ((Below.refl _ _).alloc (Nat.le_refl _) _).alloc (by simp) _
          have B9 : Hid (Below wr.heap.size wr ((w8.alloc (.cells #[admFn wr.heap.size] 76)).alloc (.cells #[admFn w7.heap.size] 76))) := below2 B8.out b9.out
          have D9 : Hid (Diff ((w8.alloc (.cells #[admFn wr.heap.size] 76)).alloc (.cells #[admFn w7.heap.size] 76)) w8.heap.size (w8.heap.size + 1) p q a b ca cb (prA k) (ouA i) wr.heap.size w7.heap.size) :=
            ⟨by simp [go_sem], by simp [go_sem], G8.out.below b9.out, F8.out.below b9.out, (HA.out.below B6.out).below B9.out, (HB.out.below B6.out).below B9.out⟩
          refine (contains_any v5 (edgesL a ++ edgesL b) _ D9.out (by omega) (by omega) ((I5.out.below HBS.out).below B9.out) hx).mono ?_
          rintro e w10 ⟨rfl, hb10⟩
          have B10 : Hid (Below w5.heap.size w5 w10) := below2 (below2 HBS.out B9.out) hb10
          clear hb10
          rw [sameAt_any]
          rcases hsa : sameAt a b (ouA i) (prA k) with _ | _
          · have HX : Hid (sameL a b = false) := sameL_not hlt hlk hsa
            clear hsa
            go_wp2_with fail
            go_ret2
            exact ⟨⟨_, _, rfl, .inr (.inr ⟨KA.out, KB.out, rfl, HX.out.symm⟩)⟩, below2 B5.out B10.out⟩
          · have HX : Hid (sameAt a b (ouA i) (prA k) = true) := hsa
            clear hsa
            go_wp2_with fail
            go_roundw
            case rel =>
              refine ⟨k + 1, by omega, by go_num, fun k' hk' => ?_, B10.out⟩
              by_cases e : k' = k
              · rw [e]; exact HX.out
              · exact HIN.out k' (by omega)
            case measure => simp [intOf]; omega
        · obtain rfl : k = 2 := by omega
          go_wp2_with fail
          go_roundw
          case rel =>
            refine ⟨i + 1, by omega, by go_num, fun i' k' hi' hk' => ?_, HBS.out⟩
            by_cases e : i' = i
            · rw [e]; exact HIN.out k' hk'
            · exact HALL.out i' k' (by omega) hk'
          case measure => simp [intOf]; omega
    · obtain rfl : i = 2 := by omega
      have HX : Hid (sameL a b = true) := sameL_all HALL.out
      go_wp2_with fail
      go_ret2
      exact ⟨⟨_, _, rfl, .inr (.inr ⟨KA.out, KB.out, rfl, HX.out.symm⟩)⟩, below2 B5.out HBR.out⟩
end Go.Proofs.YtgmdnooknnikfaaDoor
