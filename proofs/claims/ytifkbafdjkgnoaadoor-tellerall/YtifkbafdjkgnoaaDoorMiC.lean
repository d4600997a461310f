/-
  Package mirror's isSlot, the function that Tell hands in, slices.IndexFunc and slices.ContainsFunc with it; take.
-/
import Derived.Test.YtifkbafdjkgnoaaDoorMiA
namespace Go.Proofs.YtifkbafdjkgnoaaDoor
open Go.RowKit

theorem mslot_any (k : Int) (w : World) : Calls Tryd.prog 37 #[.int .i64 k] w fun e w' => e = .returned (.bool (decide (0 ≤ k) && decide (k < 32))) ∧ w' = w := by
  go_enter Tryd.func37, Tryd.ntmps37
  go_wp2_with fail
  all_goals go_ret
  all_goals refine ⟨?_, rfl⟩
  all_goals first | (simp_all; done) | (simp_all; omega)
abbrev badFn : Value := .func (.func 36) #[] #[]
set_option maxRecDepth 100000 in
set_option maxHeartbeats 2000000 in
theorem bad_any (x : Tc) (w : World) : Calls Tryd.prog 36 #[tcV x] w fun e w' => e = .returned (.bool (!okS x)) ∧ Below w.heap.size w w' := by
  unfold tcV
  have HO : Hid (okS x = (decide (0 ≤ x.sl) && decide (x.sl < 32))) := rfl
  go_enter Tryd.func36, Tryd.ntmps36
  go_wp2_with fail
  refine (mslot_any x.sl _).mono ?_
  rintro e w1 ⟨rfl, rfl⟩
  rw [← HO.out]
  go_wp2_with fail
  go_ret
  exact ⟨rfl, aB _ _⟩
set_option maxRecDepth 100000 in
set_option maxHeartbeats 2000000 in
theorem mindex_any (p : Option Addr) (cap : Nat) (l : List Tc) (w : World) (R : TcR w p l) (hl : l.length ≤ 100000) :
    Calls Tryd.prog 54 #[.slice p l.length cap, badFn] w fun e w' => (∃ k : Int, e = .returned (.int .i64 k) ∧ decide (k ≥ 0) = l.any fun x => !okS x) ∧ Below w.heap.size w w' := by
  have HR : Hid (TcR w p l) := R
  clear R
  go_enter Tryd.func54, Tryd.ntmps54
  go_wp2_with fail
  go_loopw [8] (fun t wr => ∃ j : Nat, j ≤ l.length ∧ t = .int .i64 j ∧ ((l.take j).any fun x => !okS x) = false ∧ Below w.heap.size w wr) (fun t _ => l.length - (intOf t).toNat)
  case atStart => exact ⟨0, Nat.zero_le _, rfl, rfl, Below.refl _ _⟩
  case round =>
    obtain ⟨j, hj, rfl, hno, hbr⟩ := hrel
    have HN : Hid (((l.take j).any fun x => !okS x) = false) := hno
    have HB : Hid (Below w.heap.size w wr) := hbr
    clear hno hbr
    by_cases hlt : j < l.length
    · have hr : l[j]? = some l[j] := List.getElem?_eq_getElem hlt
      obtain ⟨y, hy⟩ : ∃ y, y = l[j] := ⟨_, rfl⟩
      rw [← hy] at hr
      have HY : Hid (l[j]? = some y) := hr
      clear hy
      obtain ⟨g, o, rfl, hc⟩ := HR.out j y hr
      have hc := hc.below HB.out
      have c0 := hc.c0
      have c1 := hc.c1
      have c2 := hc.c2
      have c3 := hc.c3
      have c4 := hc.c4
      have c5 := hc.c5
      have c6 := hc.c6
      have c7 := hc.c7
      have c8 := hc.c8
      have c9 := hc.c9
      clear hr hc
      go_wp2_with fail
      refine (bad_any y _).mono ?_
      rintro e w2 ⟨rfl, hb2⟩
      have HB2 : Hid (Below w.heap.size w w2) := t2 HB.out hb2
      clear hb2 c0 c1 c2 c3 c4 c5 c6 c7 c8 c9
      rcases hd : okS y with _ | _
      · have HT : Hid ((l.any fun x => !okS x) = true) := by
          show _ = _
          rw [List.any_eq_true]
          exact ⟨y, List.mem_of_getElem? HY.out, by rw [hd]; rfl⟩
        clear hd
        go_wp2_with fail
        go_ret
        exact ⟨⟨_, rfl, by rw [HT.out, decide_eq_true_iff]; omega⟩, HB2.out⟩
      · have HT : Hid (((l.take (j + 1)).any fun x => !okS x) = false) := by
          show _ = _
          rw [List.take_add_one, HY.out, List.any_append, HN.out]
          simp only [Option.toList_some, List.any_cons, List.any_nil, hd, Bool.or_false, Bool.not_true]
        clear hd
        go_wp2_with fail
        go_roundw
        case rel => exact ⟨j + 1, by omega, by go_num, HT.out, HB2.out⟩
        case measure => simp [intOf]; omega
    · obtain rfl : j = l.length := by omega
      rw [List.take_length] at HN
      go_wp2_with fail
      go_ret
      exact ⟨⟨_, rfl, by rw [HN.out]; rfl⟩, HB.out⟩
set_option maxRecDepth 100000 in
set_option maxHeartbeats 2000000 in
theorem mcontains_any (p : Option Addr) (cap : Nat) (l : List Tc) (w : World) (R : TcR w p l) (hl : l.length ≤ 100000) :
    Calls Tryd.prog 35 #[.slice p l.length cap, badFn] w fun e w' => e = .returned (.bool (l.any fun x => !okS x)) ∧ Below w.heap.size w w' := by
  have HR : Hid (TcR w p l) := R
  clear R
  go_enter Tryd.func35, Tryd.ntmps35
  go_wp2_with fail
  refine (mindex_any p cap l _ HR.out hl).mono ?_
  rintro e w2 ⟨⟨k, rfl, hk⟩, hb2⟩
  have HB2 : Hid (Below w.heap.size w w2) := hb2
  have HK : Hid (decide (k ≥ 0) = l.any fun x => !okS x) := hk
  clear hb2 hk
  go_wp2_with fail
  all_goals go_ret
  all_goals refine ⟨?_, HB2.out⟩
  all_goals rw [← HK.out]
  all_goals rfl
end Go.Proofs.YtifkbafdjkgnoaaDoor
