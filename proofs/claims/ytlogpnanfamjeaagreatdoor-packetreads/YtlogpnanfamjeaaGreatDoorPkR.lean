/-
  Package packet's flagBit, and the library's Split, Cut, Atoi as the program uses them.
-/
import Derived.Test.YtlogpnanfamjeaaGreatDoorPkX
namespace Go.Proofs.YtlogpnanfamjeaaGreatDoor
open Go.RowKit

/-- a flag's bit by its name; 0: no flag's. -/
def fbit (x : ByteArray) : Int := if x = nm 0 then 1 else if x = nm 1 then 2 else if x = nm 2 then 4 else if x = nm 3 then 8 else 0
theorem ba_ne {a b : ByteArray} (h : ¬ b = a) : (a.toList == b.toList) = false := by
  rw [beq_eq_false_iff_ne]
  intro e
  apply h
  apply ByteArray.ext
  have := congrArg List.toArray e
  simpa [ByteArray.toList_eq] using this.symm
theorem ba_eq (a : ByteArray) : (a.toList == a.toList) = true := beq_self_eq_true _

set_option maxRecDepth 100000 in
set_option maxHeartbeats 2000000 in
theorem flagBit_any (x : ByteArray) (w : World) (T : Nms w) :
    Calls Tryz.prog 57 #[.string x] w fun e w' => e = .returned (.int .i64 (fbit x)) ∧ w' = w := by
  obtain ⟨t0, t1, t2, t3⟩ := T
  have i0 := Tryz.idxN0
  have i1 := Tryz.idxN1
  have i2 := Tryz.idxN2
  have i3 := Tryz.idxN3
  by_cases h0 : x = nm 0
  · have e : fbit x = 1 := by simp [fbit, h0]
    rw [e, h0]
    have s0 := ba_eq (nm 0)
    clear h0 e
    go_enter Tryz.func57, Tryz.ntmps57
    go_wp2_with fail
    refine wp_loop_rounds 5 ?_
    rw [rounds_succ]
    go_wp2_with fail
    go_ret
    exact ⟨rfl, rfl⟩
  · have n0 := ba_ne h0
    by_cases h1 : x = nm 1
    · have e : fbit x = 2 := by rw [h1]; decide
      rw [e]
      rw [h1] at n0 ⊢
      have s0 := ba_eq (nm 1)
      clear h0 h1 e
      go_enter Tryz.func57, Tryz.ntmps57
      go_wp2_with fail
      refine wp_loop_rounds 5 ?_
      rw [rounds_succ]
      go_wp2_with fail
      rw [rounds_succ]
      go_wp2_with fail
      go_ret
      exact ⟨rfl, rfl⟩
    · have n1 := ba_ne h1
      by_cases h2 : x = nm 2
      · have e : fbit x = 4 := by rw [h2]; decide
        rw [e]
        rw [h2] at n0 n1 ⊢
        have s0 := ba_eq (nm 2)
        clear h0 h1 h2 e
        go_enter Tryz.func57, Tryz.ntmps57
        go_wp2_with fail
        refine wp_loop_rounds 5 ?_
        rw [rounds_succ]
        go_wp2_with fail
        rw [rounds_succ]
        go_wp2_with fail
        rw [rounds_succ]
        go_wp2_with fail
        go_ret
        exact ⟨rfl, rfl⟩
      · have n2 := ba_ne h2
        by_cases h3 : x = nm 3
        · have e : fbit x = 8 := by rw [h3]; decide
          rw [e]
          rw [h3] at n0 n1 n2 ⊢
          have s0 := ba_eq (nm 3)
          clear h0 h1 h2 h3 e
          go_enter Tryz.func57, Tryz.ntmps57
          go_wp2_with fail
          refine wp_loop_rounds 5 ?_
          rw [rounds_succ]
          go_wp2_with fail
          rw [rounds_succ]
          go_wp2_with fail
          rw [rounds_succ]
          go_wp2_with fail
          rw [rounds_succ]
          go_wp2_with fail
          go_ret
          exact ⟨rfl, rfl⟩
        · have n3 := ba_ne h3
          have e : fbit x = 0 := by simp [fbit, h0, h1, h2, h3]
          rw [e]
          clear h0 h1 h2 h3 e
          go_enter Tryz.func57, Tryz.ntmps57
          go_wp2_with fail
          refine wp_loop_rounds 5 ?_
          rw [rounds_succ]
          go_wp2_with fail
          rw [rounds_succ]
          go_wp2_with fail
          rw [rounds_succ]
          go_wp2_with fail
          rw [rounds_succ]
          go_wp2_with fail
          rw [rounds_succ]
          go_wp2_with fail
          go_ret
          exact ⟨rfl, rfl⟩

/-- what the library's own variables give. -/
structure Libs (w : World) : Prop where
  ml : ∃ n, w.cell? ⟨14, 0, none⟩ = some (.int .i64 n)
  es : ∃ t p, w.cell? ⟨15, 0, none⟩ = some (.iface t p)
  er : ∃ t p, w.cell? ⟨16, 0, none⟩ = some (.iface t p)
theorem Libs.below {w w' : World} (L : Libs w) (h : Below w.heap.size w w') : Libs w' :=
  ⟨L.ml.imp fun _ k => below_keeps h k, L.es.imp fun _ k => k.imp fun _ k => below_keeps h k, L.er.imp fun _ k => k.imp fun _ k => below_keeps h k⟩

theorem atoi_ok (x : ByteArray) (hx : x.size ≤ 1000) (v : Int) (h : Lib.atoiAll x.data.toList = .ok v) (w : World) :
    Calls Tryz.prog 56 #[.string x] w fun e w' => e = .returned (.tuple #[.int .i64 v, .nilIface]) ∧ Below w.heap.size w w' := by
  refine (Tryz.strconv_Atoi_ok x (by omega) v h w).mono fun e w' ⟨he, hw⟩ => ⟨he, ?_⟩
  rcases hw with rfl | ⟨t, rfl⟩
  · exact Below.refl _ _
  · exact ⟨rfl, rfl, rfl, by rw [Lib.bytesWorld_size]; omega, fun j hj => Lib.bytesWorld_at_old w _ _ j hj⟩
theorem atoi_bad (x : ByteArray) (hx : x.size ≤ 1000) (h : ∀ v, Lib.atoiAll x.data.toList ≠ .ok v) (w : World) (L : Libs w) :
    Calls Tryz.prog 56 #[.string x] w fun e w' => (∃ n t a, e = .returned (.tuple #[.int .i64 n, .iface t (.pointer (some a))])) ∧ Below w.heap.size w w' := by
  cases hh : Lib.atoiAll x.data.toList
  · exact absurd hh (h _)
  · obtain ⟨t, p, hc⟩ := L.es
    exact (Any.strconv_Atoi_syntax Tryz.laysC172 x (by omega) hh _ w hc (.inr ⟨_, _, rfl⟩)).mono fun e w' ⟨N, he, _, _, hb⟩ => ⟨⟨_, _, _, he⟩, hb⟩
  · obtain ⟨t, p, hc⟩ := L.er
    exact (Any.strconv_Atoi_range Tryz.laysC172 x (by omega) hh _ w hc (.inr ⟨_, _, rfl⟩)).mono fun e w' ⟨N, he, _, _, hb⟩ => ⟨⟨_, _, _, he⟩, hb⟩

/-- the words of a text between one byte's instances. -/
def words (x : ByteArray) (c : UInt8) : List ByteArray := Lib.splitB ⟨#[c]⟩ 0 (Lib.countB x ⟨#[c]⟩) x
theorem words_len (x : ByteArray) (c : UInt8) : (words x c).length = Lib.countB x ⟨#[c]⟩ + 1 := Lib.splitB_all ⟨#[c]⟩ (by simp [ByteArray.size]) 0 _ x rfl
theorem split_any (x : ByteArray) (hx : x.size ≤ 1000) (c : UInt8) (w : World) (L : Libs w) :
    Calls Tryz.prog 39 #[.string x, .string ⟨#[c]⟩] w fun e w' => e = .returned (.slice (some ⟨w.heap.size, 0, none⟩) (words x c).length (words x c).length) ∧ (∀ (j : Nat) y, (words x c)[j]? = some y → w'.cell? ⟨w.heap.size, j, none⟩ = some (.string y)) ∧ Below w.heap.size w w' := by
  obtain ⟨m, hm⟩ := L.ml
  refine (Tryz.strings_Split x ⟨#[c]⟩ m w (by omega) hm (by simp [ByteArray.size])).mono fun e w' ⟨he, hw⟩ => ?_
  rw [words_len]
  refine ⟨he, fun j y hy => ?_, ?_⟩
  · rw [hw, World.cell?_alloc_at _ _ _ _ rfl]
    show ((words x c).map Value.string).toArray[j]? = _
    simp [hy]
  · rw [hw]; exact (Below.refl _ _).alloc (Nat.le_refl _) _
theorem cut_any (x : ByteArray) (hx : x.size ≤ 1000) (w : World) (L : Libs w) :
    Calls Tryz.prog 55 #[.string x, .string ⟨#[58]⟩] w fun e w' => e = .returned (.tuple #[.string ⟨(Lib.cut x.data.toList [58]).1.toArray⟩, .string ⟨(Lib.cut x.data.toList [58]).2.1.toArray⟩, .bool (Lib.cut x.data.toList [58]).2.2]) ∧ Below w.heap.size w w' := by
  obtain ⟨m, hm⟩ := L.ml
  exact (Tryz.strings_Cut x ⟨#[58]⟩ m w (by omega) hm).mono fun e w' ⟨he, n, hw⟩ => ⟨he, by rw [hw]; exact drewN_below _ _⟩

/-- an end, read loosely. -/
def pe (l : List UInt8) : Option (Int × Int) :=
  if (Lib.cut l [58]).2.2 then
    match Lib.atoiAll (Lib.cut l [58]).1, Lib.atoiAll (Lib.cut l [58]).2.1 with
    | .ok u, .ok v => some (u, v)
    | _, _ => none
  else none
theorem cut_len1 (l : List UInt8) : (Lib.cut l [58]).1.length ≤ l.length := by unfold Lib.cut; split <;> simp <;> omega
theorem cut_len2 (l : List UInt8) : (Lib.cut l [58]).2.1.length ≤ l.length := by unfold Lib.cut; split <;> simp <;> omega

set_option maxHeartbeats 2000000 in
theorem parseEnd_none (x : ByteArray) (hx : x.size ≤ 1000) (h : pe x.data.toList = none) (p : Value) (w : World) (L : Libs w) :
    Calls Tryz.prog 40 #[.string x, p] w fun e w' => e = .returned (.bool false) ∧ Below w.heap.size w w' := by
  have HL : Hid (Libs w) := L
  clear L
  have l1 := cut_len1 x.data.toList
  have l2 := cut_len2 x.data.toList
  have hxs : x.data.toList.length = x.size := Array.length_toList
  unfold pe at h
  go_enter Tryz.func40, Tryz.ntmps40
  go_wp2_with fail
  refine (cut_any x hx _ HL.out).mono ?_
  rintro e w1 ⟨rfl, hb1⟩
  have HB1 : Hid (Below w.heap.size w w1) := hb1
  clear hb1
  generalize Lib.cut x.data.toList [58] = cc at *
  obtain ⟨c1, c2, c3⟩ := cc
  cases c3
  · go_wp2_with fail
    go_ret
    exact ⟨rfl, HB1.out⟩
  · simp only [if_true] at h
    have z1 : (⟨c1.toArray⟩ : ByteArray).size ≤ 1000 := by simp [ByteArray.size]; simp at l1; omega
    have z2 : (⟨c2.toArray⟩ : ByteArray).size ≤ 1000 := by simp [ByteArray.size]; simp at l2; omega
    have H : Hid ((match Lib.atoiAll c1, Lib.atoiAll c2 with | .ok u, .ok v => some (u, v) | _, _ => none) = none) := h
    have Z1 : Hid ((⟨c1.toArray⟩ : ByteArray).size ≤ 1000) := z1
    have Z2 : Hid ((⟨c2.toArray⟩ : ByteArray).size ≤ 1000) := z2
    clear h z1 z2 l1 l2 hxs
    by_cases hu : ∃ u, Lib.atoiAll c1 = .ok u
    · obtain ⟨u, hu⟩ := hu
      have hv : ∀ v, Lib.atoiAll c2 ≠ .ok v := fun v hv => by have := H.out; rw [hu, hv] at this; cases this
      have HU : Hid (Lib.atoiAll c1 = .ok u) := hu
      have HV : Hid (∀ v, Lib.atoiAll c2 ≠ .ok v) := hv
      clear hu hv
      go_wp2_with fail
      refine (atoi_ok ⟨c1.toArray⟩ Z1.out u HU.out _).mono ?_
      rintro e w2 ⟨rfl, hb2⟩
      have HB2 : Hid (Below w.heap.size w w2) := below_all HB1.out hb2
      clear hb2
      go_wp2_with fail
      refine (atoi_bad ⟨c2.toArray⟩ Z2.out HV.out _ (HL.out.below HB2.out)).mono ?_
      rintro e w3 ⟨⟨n, t, a, rfl⟩, hb3⟩
      have HB3 : Hid (Below w.heap.size w w3) := below_all HB2.out hb3
      clear hb3
      go_wp2_with fail
      go_ret
      exact ⟨rfl, HB3.out⟩
    · have hv : ∀ v, Lib.atoiAll c1 ≠ .ok v := fun v hv => hu ⟨v, hv⟩
      have HV : Hid (∀ v, Lib.atoiAll c1 ≠ .ok v) := hv
      clear hu hv
      go_wp2_with fail
      refine (atoi_bad ⟨c1.toArray⟩ Z1.out HV.out _ (HL.out.below HB1.out)).mono ?_
      rintro e w2 ⟨⟨n, t, a, rfl⟩, hb2⟩
      have HB2 : Hid (Below w.heap.size w w2) := below_all HB1.out hb2
      clear hb2
      go_wp2_with fail
      by_cases hu : ∃ u, Lib.atoiAll c2 = .ok u
      · obtain ⟨u, hu⟩ := hu
        have HU : Hid (Lib.atoiAll c2 = .ok u) := hu
        clear hu
        refine (atoi_ok ⟨c2.toArray⟩ Z2.out u HU.out _).mono ?_
        rintro e w3 ⟨rfl, hb3⟩
        have HB3 : Hid (Below w.heap.size w w3) := below_all HB2.out hb3
        clear hb3
        go_wp2_with fail
        go_ret
        exact ⟨rfl, HB3.out⟩
      · have hv2 : ∀ v, Lib.atoiAll c2 ≠ .ok v := fun v hv => hu ⟨v, hv⟩
        have HV2 : Hid (∀ v, Lib.atoiAll c2 ≠ .ok v) := hv2
        clear hu hv2
        refine (atoi_bad ⟨c2.toArray⟩ Z2.out HV2.out _ (HL.out.below HB2.out)).mono ?_
        rintro e w3 ⟨⟨n2, t2, a2, rfl⟩, hb3⟩
        have HB3 : Hid (Below w.heap.size w w3) := below_all HB2.out hb3
        clear hb3
        go_wp2_with fail
        go_ret
        exact ⟨rfl, HB3.out⟩

set_option maxHeartbeats 2000000 in
theorem parseEnd_some (x : ByteArray) (hx : x.size ≤ 1000) (u v : Int) (h : pe x.data.toList = some (u, v)) (b o : Nat) (w : World) (L : Libs w) (y0 y1 : Value) (h0 : w.cell? ⟨b, o, none⟩ = some y0) (h1 : w.cell? ⟨b, o + 1, none⟩ = some y1) (f0 : w.frozen? ⟨b, o, none⟩ = false) (f1 : w.frozen? ⟨b, o + 1, none⟩ = false) :
    Calls Tryz.prog 40 #[.string x, .pointer (some ⟨b, o, none⟩)] w fun e w' => e = .returned (.bool true) ∧ ∃ w1, Below w.heap.size w w1 ∧ w' = (w1.setCell ⟨b, o, none⟩ (.int .i64 u)).setCell ⟨b, o + 1, none⟩ (.int .i64 v) := by
  have HL : Hid (Libs w) := L
  have G0 : Hid (w.cell? ⟨b, o, none⟩ = some y0) := h0
  have G1 : Hid (w.cell? ⟨b, o + 1, none⟩ = some y1) := h1
  have F0 : Hid (w.frozen? ⟨b, o, none⟩ = false) := f0
  have F1 : Hid (w.frozen? ⟨b, o + 1, none⟩ = false) := f1
  clear L h0 h1 f0 f1
  have l1 := cut_len1 x.data.toList
  have l2 := cut_len2 x.data.toList
  have hxs : x.data.toList.length = x.size := Array.length_toList
  unfold pe at h
  go_enter Tryz.func40, Tryz.ntmps40
  go_wp2_with fail
  refine (cut_any x hx _ HL.out).mono ?_
  rintro e w1 ⟨rfl, hb1⟩
  have HB1 : Hid (Below w.heap.size w w1) := hb1
  clear hb1
  generalize Lib.cut x.data.toList [58] = cc at *
  obtain ⟨c1, c2, c3⟩ := cc
  cases c3
  · simp at h
  · simp only [if_true] at h
    have z1 : (⟨c1.toArray⟩ : ByteArray).size ≤ 1000 := by simp [ByteArray.size]; simp at l1; omega
    have z2 : (⟨c2.toArray⟩ : ByteArray).size ≤ 1000 := by simp [ByteArray.size]; simp at l2; omega
    have huv : Lib.atoiAll c1 = .ok u ∧ Lib.atoiAll c2 = .ok v := by
      split at h
      · rename_i e1 e2
        simp only [Option.some.injEq, Prod.mk.injEq] at h
        rw [e1, e2, h.1, h.2]; exact ⟨rfl, rfl⟩
      · cases h
    have HU : Hid (Lib.atoiAll c1 = .ok u ∧ Lib.atoiAll c2 = .ok v) := huv
    have Z1 : Hid ((⟨c1.toArray⟩ : ByteArray).size ≤ 1000) := z1
    have Z2 : Hid ((⟨c2.toArray⟩ : ByteArray).size ≤ 1000) := z2
    clear h z1 z2 l1 l2 hxs huv
    go_wp2_with fail
    refine (atoi_ok ⟨c1.toArray⟩ Z1.out u HU.out.1 _).mono ?_
    rintro e w2 ⟨rfl, hb2⟩
    have HB2 : Hid (Below w.heap.size w w2) := below_all HB1.out hb2
    clear hb2
    go_wp2_with fail
    refine (atoi_ok ⟨c2.toArray⟩ Z2.out v HU.out.2 _).mono ?_
    rintro e w3 ⟨rfl, hb3⟩
    have HB3 : Hid (Below w.heap.size w w3) := below_all HB2.out hb3
    have d0 := below_keeps HB3.out G0.out
    have d1 := below_keeps HB3.out G1.out
    have e0 : w3.frozen? ⟨b, o, none⟩ = false := by rw [below_frozen HB3.out G0.out]; exact F0.out
    have e1 : w3.frozen? ⟨b, o + 1, none⟩ = false := by rw [below_frozen HB3.out G1.out]; exact F1.out
    clear hb3
    go_wp2_with fail
    go_ret
    exact ⟨rfl, w3, HB3.out, rfl⟩
end Go.Proofs.YtlogpnanfamjeaaGreatDoor
