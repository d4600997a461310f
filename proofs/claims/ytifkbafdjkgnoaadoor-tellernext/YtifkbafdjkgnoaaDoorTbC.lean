/-
  Package table's Find, Back, freeSlot, freePort.
-/
import Derived.Test.YtifkbafdjkgnoaaDoorTbB
namespace Go.Proofs.YtifkbafdjkgnoaaDoor
open Go.RowKit

theorem findC_new (w : World) (pr ia ip fa fp : Int) : FindC (((w.alloc (.cells #[.int .i64 pr] 3)).alloc (.cells #[.int .i64 ia, .int .i64 ip] 34)).alloc (.cells #[.int .i64 fa, .int .i64 fp] 34)) w.heap.size pr ia ip fa fp := by
  have s1 : ((w.alloc (.cells #[.int .i64 pr] 3))).heap.size = w.heap.size + 1 := by simp
  have s2 : (((w.alloc (.cells #[.int .i64 pr] 3)).alloc (.cells #[.int .i64 ia, .int .i64 ip] 34))).heap.size = w.heap.size + 2 := by simp
  have A : ∀ (v : World) (o : Obj), Below v.heap.size v (v.alloc o) := fun v o => (Below.refl _ _).alloc (Nat.le_refl _) _
  have n1 := nw (w.alloc (.cells #[.int .i64 pr] 3)) #[.int .i64 ia, .int .i64 ip] 34
  have n2 := nw ((w.alloc (.cells #[.int .i64 pr] 3)).alloc (.cells #[.int .i64 ia, .int .i64 ip] 34)) #[.int .i64 fa, .int .i64 fp] 34
  rw [s1] at n1
  rw [s2] at n2
  exact ⟨tk (A _ _) (tk (A _ _) ((nw w _ _ 0).trans rfl)), tk (A _ _) ((n1 0).trans rfl), tk (A _ _) ((n1 1).trans rfl), (n2 0).trans rfl, (n2 1).trans rfl⟩
theorem backC_new (w : World) (pr po fa fp : Int) : BackC (((w.alloc (.cells #[.int .i64 pr] 3)).alloc (.cells #[.int .i64 po] 3)).alloc (.cells #[.int .i64 fa, .int .i64 fp] 34)) w.heap.size pr po fa fp := by
  have s1 : ((w.alloc (.cells #[.int .i64 pr] 3))).heap.size = w.heap.size + 1 := by simp
  have s2 : (((w.alloc (.cells #[.int .i64 pr] 3)).alloc (.cells #[.int .i64 po] 3))).heap.size = w.heap.size + 2 := by simp
  have A : ∀ (v : World) (o : Obj), Below v.heap.size v (v.alloc o) := fun v o => (Below.refl _ _).alloc (Nat.le_refl _) _
  have n1 := nw (w.alloc (.cells #[.int .i64 pr] 3)) #[.int .i64 po] 3
  have n2 := nw ((w.alloc (.cells #[.int .i64 pr] 3)).alloc (.cells #[.int .i64 po] 3)) #[.int .i64 fa, .int .i64 fp] 34
  rw [s1] at n1
  rw [s2] at n2
  exact ⟨tk (A _ _) (tk (A _ _) ((nw w _ _ 0).trans rfl)), tk (A _ _) ((n1 0).trans rfl), (n2 0).trans rfl, (n2 1).trans rfl⟩
theorem fstV_eq (o : Option Nat) : fstV o = .tuple #[.int .i64 ((o.getD 0 : Nat) : Int), .bool o.isSome] := by cases o <;> rfl
set_option maxRecDepth 100000 in
theorem find_any (b : Nat) (low : Int) (T : Tb) (pr ia ip fa fp : Int) (w : World) (t : Tab w b low T) :
    Calls Tryd.prog 28 #[.pointer (some ⟨b, 0, none⟩), .int .i64 pr, .agg #[.int .i64 ia, .int .i64 ip], .agg #[.int .i64 fa, .int .i64 fp]] w fun e w' => e = .returned (.tuple #[.int .i64 (((fst T (findQ pr ia ip fa fp)).getD 0 : Nat) : Int), .bool (fst T (findQ pr ia ip fa fp)).isSome]) ∧ Below w.heap.size w w' := by
  have HT : Hid (Tab w b low T) := t
  clear t
  go_enter Tryd.func28, Tryd.ntmps28
  go_wp2_with fail
  refine (first_find b low T w.heap.size pr ia ip fa fp _ (((HT.out.alloc _).alloc _).alloc _) (findC_new w pr ia ip fa fp)).mono ?_
  rintro e w1 ⟨rfl, hb1⟩
  have B1 : Hid (Below w.heap.size w w1) := t2 (t2 (t2 ((Below.refl _ _).alloc (Nat.le_refl _) _) ((Below.refl _ _).alloc (Nat.le_refl _) _)) ((Below.refl _ _).alloc (Nat.le_refl _) _)) hb1
  clear hb1
  rw [fstV_eq]
  go_wp2_with fail
  go_ret2
  exact ⟨rfl, B1.out⟩
set_option maxRecDepth 100000 in
theorem back_any (b : Nat) (low : Int) (T : Tb) (pr po fa fp : Int) (w : World) (t : Tab w b low T) :
    Calls Tryd.prog 50 #[.pointer (some ⟨b, 0, none⟩), .int .i64 pr, .int .i64 po, .agg #[.int .i64 fa, .int .i64 fp]] w fun e w' => e = .returned (.tuple #[.int .i64 (((fst T (backQ pr po fa fp)).getD 0 : Nat) : Int), .bool (fst T (backQ pr po fa fp)).isSome]) ∧ Below w.heap.size w w' := by
  have HT : Hid (Tab w b low T) := t
  clear t
  go_enter Tryd.func50, Tryd.ntmps50
  go_wp2_with fail
  refine (first_back b low T w.heap.size pr po fa fp _ (((HT.out.alloc _).alloc _).alloc _) (backC_new w pr po fa fp)).mono ?_
  rintro e w1 ⟨rfl, hb1⟩
  have B1 : Hid (Below w.heap.size w w1) := t2 (t2 (t2 ((Below.refl _ _).alloc (Nat.le_refl _) _) ((Below.refl _ _).alloc (Nat.le_refl _) _)) ((Below.refl _ _).alloc (Nat.le_refl _) _)) hb1
  clear hb1
  rw [fstV_eq]
  go_wp2_with fail
  go_ret2
  exact ⟨rfl, B1.out⟩
set_option maxRecDepth 100000 in
theorem free_any (b : Nat) (low : Int) (T : Tb) (w : World) (t : Tab w b low T) :
    Calls Tryd.prog 29 #[.pointer (some ⟨b, 0, none⟩)] w fun e w' => e = .returned (.tuple #[.int .i64 (((fst T freeQ).getD 0 : Nat) : Int), .bool (fst T freeQ).isSome]) ∧ Below w.heap.size w w' := by
  have HT : Hid (Tab w b low T) := t
  clear t
  go_enter Tryd.func29, Tryd.ntmps29
  go_wp2_with fail
  refine (first_free b low T w HT.out).mono ?_
  rintro e w1 ⟨rfl, hb1⟩
  have B1 : Hid (Below w.heap.size w w1) := hb1
  clear hb1
  rw [fstV_eq]
  go_wp2_with fail
  go_ret2
  exact ⟨rfl, B1.out⟩
set_option maxRecDepth 100000 in
set_option maxHeartbeats 2000000 in
theorem port_any (b : Nat) (low : Int) (T : Tb) (pr fa fp : Int) (w : World) (t : Tab w b low T) (h0 : 0 ≤ low) (h1 : low ≤ 100000) :
    Calls Tryd.prog 30 #[.pointer (some ⟨b, 0, none⟩), .int .i64 pr, .agg #[.int .i64 fa, .int .i64 fp]] w fun e w' => (∃ x : Int, e = .returned (.tuple #[.int .i64 x, .bool (freeP T low pr fa fp).isSome]) ∧ ∀ p, freeP T low pr fa fp = some p → x = low + p) ∧ Below w.heap.size w w' := by
  have HT : Hid (Tab w b low T) := t
  have cl := t.low
  have hbl := t.lt
  clear t
  go_enter Tryd.func30, Tryd.ntmps30
  go_wp2_with fail
  have HB0 : Hid (Below w.heap.size w (w.alloc (.cells #[.int .i64 fa, .int .i64 fp] 34))) := (Below.refl _ _).alloc (Nat.le_refl _) _
  have HE : Hid ((w.alloc (.cells #[.int .i64 fa, .int .i64 fp] 34)).cell? ⟨w.heap.size, 0, none⟩ = some (.int .i64 fa) ∧ (w.alloc (.cells #[.int .i64 fa, .int .i64 fp] 34)).cell? ⟨w.heap.size, 1, none⟩ = some (.int .i64 fp)) := ⟨(nw _ _ _ _).trans rfl, (nw _ _ _ _).trans rfl⟩
  have HL : Hid (w.heap.size < (w.alloc (.cells #[.int .i64 fa, .int .i64 fp] 34)).heap.size) := by show _ < _; simp
  generalize w.alloc (.cells #[.int .i64 fa, .int .i64 fp] 34) = w0 at *
  have HT0 : Hid (Tab w0 b low T) := HT.out.below HB0.out
  clear cl hbl
  go_loopw [8] (fun t wr => ∃ j : Nat, j ≤ 24 ∧ t = .int .i64 (low + j) ∧ (∀ i, i < j → (fst T (backQ pr (low + (i : Nat)) fa fp)).isSome = true) ∧ Below w0.heap.size w0 wr) (fun t _ => 24 - (intOf t - low).toNat)
  case atStart => exact ⟨0, by omega, by simp, fun i hi => by omega, Below.refl _ _⟩
  case round =>
    obtain ⟨j, hj, rfl, hno, hbr⟩ := hrel
    have HN : Hid (∀ i, i < j → (fst T (backQ pr (low + (i : Nat)) fa fp)).isSome = true) := hno
    have HB : Hid (Below w0.heap.size w0 wr) := hbr
    have cl := (HT0.out.below hbr).low
    have c0 := tk hbr HE.out.1
    have c1 := tk hbr HE.out.2
    clear hno hbr
    have bb0 : IntKind.i64.wrap (low + 24) = low + 24 := by rw [IntKind.wrap_i64]; omega
    by_cases hlt : j < 24
    · have hd : low + (j : Int) < low + 24 := by omega
      go_wp2_with fail
      refine (back_any b low T pr (low + j) fa fp wr (HT0.out.below HB.out)).mono ?_
      rintro e w2 ⟨rfl, hb2⟩
      have HB2 : Hid (Below w0.heap.size w0 w2) := t2 HB.out hb2
      clear hb2 cl c0 c1
      rcases hq : fst T (backQ pr (low + (j : Nat)) fa fp) with _ | k
      · have HF : Hid (freeP T low pr fa fp = some j) := freeP_some.2 ⟨hlt, hq, HN.out⟩
        clear hq
        simp only [Option.isSome_none, Option.getD_none]
        go_wp2_with fail
        go_ret2
        refine ⟨⟨_, by rw [HF.out]; rfl, fun p hp => ?_⟩, HB0.out.trans (HB2.out.mono HB0.out.size)⟩
        rw [HF.out] at hp
        obtain rfl := Option.some.inj hp
        rfl
      · have HN2 : Hid (∀ i, i < j + 1 → (fst T (backQ pr (low + (i : Nat)) fa fp)).isSome = true) := fun i hi => by
          by_cases e : i = j
          · rw [e, hq]; rfl
          · exact HN.out i (by omega)
        clear hq
        simp only [Option.isSome_some, Option.getD_some]
        go_wp2_with fail
        go_roundw
        case rel => exact ⟨j + 1, by omega, by go_num, HN2.out, HB2.out⟩
        case measure => simp [intOf]; omega
    · obtain rfl : j = 24 := by omega
      have hd : ¬ low + ((24 : Nat) : Int) < low + 24 := by omega
      go_wp2_with fail
      go_ret2
      refine ⟨⟨_, by rw [freeP_none.2 HN.out]; rfl, fun p hp => ?_⟩, HB0.out.trans (HB.out.mono HB0.out.size)⟩
      rw [freeP_none.2 HN.out] at hp
      cases hp
end Go.Proofs.YtifkbafdjkgnoaaDoor
