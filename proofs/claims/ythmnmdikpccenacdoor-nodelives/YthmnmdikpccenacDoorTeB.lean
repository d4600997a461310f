/-
  Package teller's news: the function that it hands in, slices.IndexFunc and slices.DeleteFunc with it; Lag.
-/
import Derived.Test.YthmnmdikpccenacDoorTeA
import Derived.Deep.QuietTactic
import Derived.BigQuiet
namespace Go.Proofs.YthmnmdikpccenacDoor
open Go.RowKit Go.Maps

theorem lit_inj {H : Type} {a b : Int} (h : (DataW.lit (.int .i64 a) : DataW H) = .lit (.int .i64 b)) : a = b := by cases h; rfl
theorem ToldM.look {w : World} {M n : Nat} {D : To} (h : ToldM w M n D) {k : Nat} (hk : k < 32) : (Instr.lookup 76 (.map (some M)) (.int .i64 k) false).run Tryd.prog w = .ok (.int .i64 (D k)) w := by
  obtain ⟨d, h1, h2⟩ := h
  obtain ⟨c, hrun, hat, _⟩ := h1.lookup_int ikey Tryd.underlying76 Tryd.underlying3 (izero _) (keyOf_int_mk Tryd.underlying3 (wfI (x := k) (by omega) (by omega)))
  have e := (h2 k hk).symm.trans hat
  have e2 : D k = c := lit_inj e
  subst e2
  exact hrun
abbrev newsFn (V : Nat) : Value := .func (.func 78) #[] #[.pointer (some ⟨V, 0, none⟩)]
/-- is a slot as it was told? -/
def oldQ (T : Tb) (D : To) (s : Nat) : Bool := (T s).ve == D s
set_option maxRecDepth 100000 in
set_option maxHeartbeats 2000000 in
theorem newsF_any (V X b M n c : Nat) (T : Tb) (D : To) (s : Nat) (w : World) (hs : s < 32) (V0 : w.cell? ⟨V, 0, none⟩ = some (.pointer (some ⟨X, 0, none⟩))) (H : Tel w X b M n D c) :
    Calls Tryd.prog 78 #[.agg #[.int .i64 s, .int .i64 (T s).ve, .int .i64 (T s).pr, .int .i64 (T s).ia, .int .i64 (T s).ip, .int .i64 (T s).fa, .int .i64 (T s).fp, .int .i64 (T s).po, .int .i64 (T s).st, .int .i64 (T s).un], .pointer (some ⟨V, 0, none⟩)] w fun e w' => e = .returned (.bool (oldQ T D s)) ∧ Below w.heap.size w w' := by
  have HH : Hid (Tel w X b M n D c) := H
  have HV : Hid (w.cell? ⟨V, 0, none⟩ = some (.pointer (some ⟨X, 0, none⟩))) := V0
  have HQ : Hid (oldQ T D s = ((T s).ve == D s)) := rfl
  clear H V0
  generalize (T s).pr = x2
  generalize (T s).ia = x3
  generalize (T s).ip = x4
  generalize (T s).fa = x5
  generalize (T s).fp = x6
  generalize (T s).po = x7
  generalize (T s).st = x8
  generalize (T s).un = x9
  generalize hve : (T s).ve = ve at *
  generalize hos : D s = od at *
  have HOS : Hid (D s = od) := hos
  clear hve hos
  go_enter Tryd.func78, Tryd.ntmps78
  go_wp2_with fail
  have B0 : Hid (Below w.heap.size w (w.alloc (.cells #[.int .i64 s, .int .i64 ve, .int .i64 x2, .int .i64 x3, .int .i64 x4, .int .i64 x5, .int .i64 x6, .int .i64 x7, .int .i64 x8, .int .i64 x9] 49))) := aB _ _
  have a0 : (w.alloc (.cells #[.int .i64 s, .int .i64 ve, .int .i64 x2, .int .i64 x3, .int .i64 x4, .int .i64 x5, .int .i64 x6, .int .i64 x7, .int .i64 x8, .int .i64 x9] 49)).cell? ⟨w.heap.size, 0, none⟩ = some (.int .i64 s) := (nw _ _ _ _).trans rfl
  have a1 : (w.alloc (.cells #[.int .i64 s, .int .i64 ve, .int .i64 x2, .int .i64 x3, .int .i64 x4, .int .i64 x5, .int .i64 x6, .int .i64 x7, .int .i64 x8, .int .i64 x9] 49)).cell? ⟨w.heap.size, 1, none⟩ = some (.int .i64 ve) := (nw _ _ _ _).trans rfl
  generalize w.alloc (.cells #[.int .i64 s, .int .i64 ve, .int .i64 x2, .int .i64 x3, .int .i64 x4, .int .i64 x5, .int .i64 x6, .int .i64 x7, .int .i64 x8, .int .i64 x9] 49) = w0 at *
  have H1 := HH.out.below B0.out
  have v0 := tk B0.out HV.out
  have t1 := H1.c1
  have hlk := (H1.below (Below.refl _ _).drew).m.look hs
  rw [HOS.out] at hlk
  clear H1
  go_region
  go_wp2_with fail
  go_ret
  exact ⟨by rw [HQ.out]; rfl, B0.out.drew⟩
theorem newsL_old (T : Tb) (D : To) : newsL T D = (List.range 32).filter fun s => !oldQ T D s := rfl
/-- where the first is that is as it was told. -/
def FirstOld (T : Tb) (D : To) (k : Int) : Prop := (k = -1 ∧ ∀ s, s < 32 → oldQ T D s = false) ∨ ∃ j : Nat, j < 32 ∧ k = j ∧ oldQ T D j = true ∧ ∀ i, i < j → oldQ T D i = false
set_option maxRecDepth 100000 in
set_option maxHeartbeats 2000000 in
theorem nindex_any (V X b M n c Z : Nat) (T : Tb) (D : To) (w : World) (V0 : w.cell? ⟨V, 0, none⟩ = some (.pointer (some ⟨X, 0, none⟩))) (H : Tel w X b M n D c) (R : RowsB w Z T (List.range 32)) :
    Calls Tryd.prog 90 #[.slice (some ⟨Z, 0, none⟩) 32 32, newsFn V] w fun e w' => (∃ k : Int, e = .returned (.int .i64 k) ∧ FirstOld T D k) ∧ Below w.heap.size w w' := by
  have HH : Hid (Tel w X b M n D c) := H
  have HV : Hid (w.cell? ⟨V, 0, none⟩ = some (.pointer (some ⟨X, 0, none⟩))) := V0
  have HR : Hid (RowsB w Z T (List.range 32)) := R
  clear H V0 R
  go_enter Tryd.func90, Tryd.ntmps90
  go_wp2_with fail
  go_loopw [8] (fun t wr => ∃ j : Nat, j ≤ 32 ∧ t = .int .i64 j ∧ (∀ i, i < j → oldQ T D i = false) ∧ Below w.heap.size w wr) (fun t _ => 32 - (intOf t).toNat)
  case atStart => exact ⟨0, by omega, rfl, fun i hi => by omega, Below.refl _ _⟩
  case round =>
    obtain ⟨j, hj, rfl, hno, hbr⟩ := hrel
    have HN : Hid (∀ i, i < j → oldQ T D i = false) := hno
    have HB : Hid (Below w.heap.size w wr) := hbr
    clear hno hbr
    by_cases hlt : j < 32
    · have i0 : (0 : Int) ≤ (j : Int) := by omega
      have i1 : (j : Int) < 32 := by omega
      have R1 := HR.out.below HB.out
      have hj32 : (List.range 32)[j]? = some j := List.getElem?_range hlt
      have c0 := R1.at' (k := 0) hj32 (by omega)
      have c1 := R1.at' (k := 1) hj32 (by omega)
      have c2 := R1.at' (k := 2) hj32 (by omega)
      have c3 := R1.at' (k := 3) hj32 (by omega)
      have c4 := R1.at' (k := 4) hj32 (by omega)
      have c5 := R1.at' (k := 5) hj32 (by omega)
      have c6 := R1.at' (k := 6) hj32 (by omega)
      have c7 := R1.at' (k := 7) hj32 (by omega)
      have c8 := R1.at' (k := 8) hj32 (by omega)
      have c9 := R1.at' (k := 9) hj32 (by omega)
      simp only [Ce.get, Nat.add_zero] at c0 c1 c2 c3 c4 c5 c6 c7 c8 c9
      clear R1 hj32
      go_wp2_with fail
      refine (newsF_any V X b M n c T D j _ hlt (tk HB.out HV.out) (HH.out.below HB.out)).mono ?_
      rintro e w2 ⟨rfl, hb2⟩
      have HB2 : Hid (Below w.heap.size w w2) := t2 HB.out hb2
      clear hb2 c0 c1 c2 c3 c4 c5 c6 c7 c8 c9
      rcases hq : oldQ T D j with _ | _
      · have HN2 : Hid (∀ i, i < j + 1 → oldQ T D i = false) := fun i hi => by
          by_cases e : i = j
          · rw [e]; exact hq
          · exact HN.out i (by omega)
        clear hq
        go_wp2_with fail
        go_roundw
        case rel => exact ⟨j + 1, by omega, by go_num, HN2.out, HB2.out⟩
        case measure => simp [intOf]; omega
      · have HF : Hid (FirstOld T D j) := .inr ⟨j, hlt, rfl, hq, HN.out⟩
        clear hq
        go_wp2_with fail
        go_ret
        exact ⟨⟨_, rfl, HF.out⟩, HB2.out⟩
    · obtain rfl : j = 32 := by omega
      go_wp2_with fail
      go_ret
      exact ⟨⟨_, rfl, .inl ⟨rfl, HN.out⟩⟩, HB.out⟩
end Go.Proofs.YthmnmdikpccenacDoor
