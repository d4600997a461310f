/-
  The document's table: Put, Add.
-/
import Derived.Test.YtifkbafdjkgnoaaDoorTrD
import Derived.Deep.RegionHeld3
namespace Go.Proofs.YtifkbafdjkgnoaaDoor
open Go.RowKit

theorem foundI_ge (o : Option Nat) : decide (foundI o ≥ 0) = o.isSome := by
  cases o with
  | none => rfl
  | some k => simp [foundI]
/-- what Add's loop knows in a round. -/
structure AdR (w0 W : World) (m g cap Z : Nat) (low : Int) (T : Tb) (ia ip fa fp : Int) : Prop where
  r : RTab W m g cap low T
  e : EnB W Z ia ip fa fp
  b : Below w0.heap.size w0 W
theorem AdR.below {w0 W W' : World} {m g cap Z : Nat} {low : Int} {T : Tb} {ia ip fa fp : Int} (h : AdR w0 W m g cap Z low T ia ip fa fp) (hb : Below W.heap.size W W') : AdR w0 W' m g cap Z low T ia ip fa fp := ⟨h.r.below hb, h.e.below hb, t2 h.b hb⟩
theorem AdR.all {w0 W : World} {m g cap Z : Nat} {low : Int} {T : Tb} {ia ip fa fp : Int} (h : AdR w0 W m g cap Z low T ia ip fa fp) :
    W.cell? ⟨m, 0, none⟩ = some (.int .i64 low) ∧ W.cell? ⟨Z + 1, 0, none⟩ = some (.int .i64 fa) ∧ W.cell? ⟨Z + 1, 1, none⟩ = some (.int .i64 fp) ∧ AdR w0 W m g cap Z low T ia ip fa fp := ⟨h.r.c0, h.e.c2, h.e.c3, h⟩
theorem AdR.back {w0 W : World} {m g cap Z : Nat} {low : Int} {T : Tb} {ia ip fa fp : Int} (h : AdR w0 W m g cap Z low T ia ip fa fp) (pr po : Int) :
    Calls Tryd.prog 42 #[.pointer (some ⟨m, 0, none⟩), .int .i64 pr, .int .i64 po, .agg #[.int .i64 fa, .int .i64 fp]] W fun e w' => e = .returned (.int .i64 (foundI (fst T (backQ pr po fa fp)))) ∧ AdR w0 w' m g cap Z low T ia ip fa fp := by
  refine (backR_any m g cap low T pr po fa fp W h.r).mono ?_
  rintro e w' ⟨rfl, hb⟩
  exact ⟨rfl, h.below hb⟩
set_option maxRecDepth 100000 in
set_option maxHeartbeats 4000000 in
theorem addR_any (m g cap : Nat) (low : Int) (T : Tb) (pr ia ip fa fp st un : Int) (n : Nat) (w : World) (t : RTab w m g cap low T) (hl0 : 0 ≤ low) (hl1 : low ≤ 100000) (hv : Vers T n) (hn : n ≤ 1000000) :
    Calls Tryd.prog 21 #[.pointer (some ⟨m, 0, none⟩), .int .i64 pr, .agg #[.int .i64 ia, .int .i64 ip], .agg #[.int .i64 fa, .int .i64 fp], .int .i64 st, .int .i64 un] w fun e w' => e = .returned (.tuple #[.int .i64 ((addT T low pr ia ip fa fp st un).1 : Nat), .int .i64 ((addT T low pr ia ip fa fp st un).2.1 : Nat)]) ∧ RTab w' m g cap low (addT T low pr ia ip fa fp st un).2.2 ∧ Chg g w w' := by
  have B0 : Hid (Below w.heap.size w ((w.alloc (.cells #[.int .i64 ia, .int .i64 ip] 34)).alloc (.cells #[.int .i64 fa, .int .i64 fp] 34))) := t2 (aB _ _) (aB _ _)
  have F0 : Hid (EnB ((w.alloc (.cells #[.int .i64 ia, .int .i64 ip] 34)).alloc (.cells #[.int .i64 fa, .int .i64 fp] 34)) w.heap.size ia ip fa fp) := enB_new w ia ip fa fp
  have R0 : Hid (RTab ((w.alloc (.cells #[.int .i64 ia, .int .i64 ip] 34)).alloc (.cells #[.int .i64 fa, .int .i64 fp] 34)) m g cap low T) := t.below (t2 (aB _ _) (aB _ _))
  have HV : Hid (Vers T n) := hv
  clear t hv
  go_enter Tryd.func21, Tryd.ntmps21
  go_wp2_with fail
  generalize (w.alloc (.cells #[.int .i64 ia, .int .i64 ip] 34)).alloc (.cells #[.int .i64 fa, .int .i64 fp] 34) = w0 at *
  generalize hZ : w.heap.size = Z at F0 ⊢
  refine (findR_any m g cap low T pr ia ip fa fp w0 R0.out).mono ?_
  rintro e w1 ⟨rfl, hb1⟩
  have A1 : Hid (AdR w w1 m g cap Z low T ia ip fa fp) := ⟨R0.out.below hb1, F0.out.below hb1, t2 B0.out hb1⟩
  clear hb1 B0 F0 R0
  rcases hf : fst T (findQ pr ia ip fa fp) with _ | k0
  · have HF : Hid (fst T (findQ pr ia ip fa fp) = none) := hf
    simp only [foundI]
    clear hf
    go_wp2_with fail
    go_loopw [14] (fun t wr => ∃ j : Nat, j ≤ 24 ∧ t = .int .i64 j ∧ (∀ i, i < j → (fst T (backQ pr (low + (i : Nat)) fa fp)).isSome = true) ∧ AdR w wr m g cap Z low T ia ip fa fp) (fun t _ => 24 - (intOf t).toNat)
    case atStart => exact ⟨0, by omega, rfl, fun i hi => by omega, A1.out⟩
    case round =>
      obtain ⟨j, hj, rfl, hno, ha⟩ := hrel
      have HN : Hid (∀ i, i < j → (fst T (backQ pr (low + (i : Nat)) fa fp)).isSome = true) := hno
      have HA : Hid (AdR w wr.drew m g cap Z low T ia ip fa fp) := ha.below (Below.refl _ _).drew
      have HA0 : Hid (AdR w wr m g cap Z low T ia ip fa fp) := ha
      have c0 := ha.r.c0
      have e2 := ha.e.c2
      have e3 := ha.e.c3
      clear hno ha A1
      by_cases hlt : j < 24
      · have hw : IntKind.i64.wrap (low + (j : Int)) = low + (j : Int) := by rw [IntKind.wrap_i64]; omega
        go_wp2_with fail
        go_region_held3 (fun w' => w'.cell? ⟨m, 0, none⟩ = some (.int .i64 low) ∧ w'.cell? ⟨Z + 1, 0, none⟩ = some (.int .i64 fa) ∧ w'.cell? ⟨Z + 1, 1, none⟩ = some (.int .i64 fp) ∧ AdR w w' m g cap Z low T ia ip fa fp) (first | assumption | exact HA.out.all | exact AdR.all (by assumption)) (first | (go_at_call 42; refine (AdR.back (by assumption) pr (low + j)).mono ?_; rintro e w2 ⟨rfl, A2⟩))
        rename_i hheld
        clear hheld c0 e2 e3 HA HA0
        have HA2 : Hid (AdR w w2 m g cap Z low T ia ip fa fp) := A2
        have HA3 : Hid (AdR w w2.drew m g cap Z low T ia ip fa fp) := A2.below (Below.refl _ _).drew
        clear A2
        rcases hq : fst T (backQ pr (low + (j : Nat)) fa fp) with _ | k
        · have HP : Hid (addT T low pr ia ip fa fp st un = layRT T ⟨0, pr, ia, ip, fa, fp, low + j, st, un⟩) := by
            show _ = _
            have hfp : freeP T low pr fa fp = some j := freeP_some.2 ⟨hlt, hq, HN.out⟩
            unfold addT layRT
            rw [HF.out, hfp]
            cases fst T freeQ <;> rfl
          simp only [foundI]
          clear hq
          have c0 := HA2.out.r.c0
          have e0 := HA2.out.e.c0
          have e1 := HA2.out.e.c1
          have e2 := HA2.out.e.c2
          have e3 := HA2.out.e.c3
          go_wp2_with fail
          go_region_with (first | (go_at_call 43; refine (layR_any m g cap low T ⟨0, pr, ia, ip, fa, fp, low + j, st, un⟩ n _ ?_ HV.out hn).mono ?_; (first | exact HA3.out.r | exact HA2.out.r); rintro e w3 ⟨rfl, t3, k3⟩))
          all_goals
            have T3 : Hid (RTab w3 m g cap low (layRT T ⟨0, pr, ia, ip, fa, fp, low + j, st, un⟩).2.2) := t3
            have C3 : Hid (Chg g w w3) := by first | exact (Chg.of HA3.out.b).trans k3 | exact (Chg.of HA2.out.b).trans k3
            clear t3 k3
            generalize layRT T ⟨0, pr, ia, ip, fa, fp, low + j, st, un⟩ = R at *
            go_wp2_with fail
            go_ret2
            rw [HP.out]
            exact ⟨rfl, T3.out, C3.out⟩
        · have HN2 : Hid (∀ i, i < j + 1 → (fst T (backQ pr (low + (i : Nat)) fa fp)).isSome = true) := fun i hi => by
            by_cases e : i = j
            · rw [e, hq]; rfl
            · exact HN.out i (by omega)
          simp only [foundI]
          have hk : ¬ ((k : Int) < 0) := by omega
          clear hq
          go_wp2_with fail
          go_roundw
          case rel => exact ⟨j + 1, by omega, by go_num, HN2.out, HA2.out⟩
          case measure => simp [intOf]; omega
      · obtain rfl : j = 24 := by omega
        have HP : Hid (addT T low pr ia ip fa fp st un = (0, 6, T)) := by
          show _ = _
          have hfp : freeP T low pr fa fp = none := freeP_none.2 HN.out
          unfold addT
          rw [HF.out, hfp]
          cases fst T freeQ <;> rfl
        go_wp2_with fail
        go_ret2
        rw [HP.out]
        exact ⟨rfl, HA0.out.r, Chg.of HA0.out.b⟩
  · have HP : Hid (addT T low pr ia ip fa fp st un = (0, 5, T)) := by show _ = _; unfold addT; rw [hf]
    simp only [foundI]
    have hk : ¬ ((k0 : Int) < 0) := by omega
    have hk2 : (0 : Int) ≤ (k0 : Int) := by omega
    clear hf
    go_wp2_with fail
    go_ret2
    rw [HP.out]
    exact ⟨rfl, A1.out.r, Chg.of A1.out.b⟩
end Go.Proofs.YtifkbafdjkgnoaaDoor
