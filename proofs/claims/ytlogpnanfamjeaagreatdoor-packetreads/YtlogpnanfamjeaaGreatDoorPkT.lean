/-
  Package packet's protoText and endText.
-/
import Derived.Test.YtlogpnanfamjeaaGreatDoorPkB
import Derived.Test.YtlogpnanfamjeaaGreatDoorShelf
import Derived.Test.YtlogpnanfamjeaaGreatDoorNum
namespace Go.Proofs.YtlogpnanfamjeaaGreatDoor
open Go.RowKit

def udpS : ByteArray := ⟨#[117, 100, 112]⟩
def tcpS : ByteArray := ⟨#[116, 99, 112]⟩
theorem protoText_udp (w : World) : Calls Tryz.prog 19 #[.int .i64 1] w fun e w' => e = .returned (.string ⟨#[117, 100, 112]⟩) ∧ w' = w := by
  go_enter Tryz.func19, Tryz.ntmps19
  go_wp2
  go_ret
  exact ⟨rfl, rfl⟩
theorem protoText_tcp (w : World) : Calls Tryz.prog 19 #[.int .i64 2] w fun e w' => e = .returned (.string ⟨#[116, 99, 112]⟩) ∧ w' = w := by
  go_enter Tryz.func19, Tryz.ntmps19
  go_wp2
  go_ret
  exact ⟨rfl, rfl⟩

/-- the library's table lies as laid. -/
def Pow (w : World) : Prop := Lib.TabIs Tryz.prog w "internal/strconv.uint64pow10" .u64 Lib.pow10Tab

theorem Pow.below {w w' : World} (T : Pow w) (h : Below w.heap.size w w') : Pow w' := by
  unfold Pow Lib.TabIs at *
  unfold World.var? at *
  cases hg : Tryz.prog.globalNamed "internal/strconv.uint64pow10" with
  | none => rw [hg] at T; cases T
  | some g =>
    rw [hg] at T
    simp only [Option.bind_some] at T ⊢
    rw [h.block g (by
      rcases Nat.lt_or_ge g w.heap.size with h' | h'
      · exact h'
      · simp [Array.getElem?_eq_none h'] at T)]
    exact T
theorem grow_below (w : World) (k : Nat) (zs : Array Obj) : Below w.heap.size w (Sort.grow (w.drewN k) zs) :=
  ⟨rfl, rfl, rfl, by show _ ≤ (w.heap ++ zs).size; simp, fun k hk => by show (w.heap ++ zs)[k]? = _; rw [Array.getElem?_append_left hk]⟩
theorem itoa_any (n : Int) (h0 : -9223372036854775808 ≤ n) (h1 : n ≤ 9223372036854775807) (w : World) (T : Pow w) :
    Calls Tryz.prog 34 #[.int .i64 n] w fun e w' => e = .returned (.string ⟨(Lib.itoa n).toArray⟩) ∧ Below w.heap.size w w' := by
  refine (Tryz.strconv_Itoa n h0 h1 w T).mono fun e w' ⟨he, k, os, hw⟩ => ⟨he, ?_⟩
  rw [hw]; exact grow_below _ _ _

set_option maxHeartbeats 1000000 in
theorem endText_any (a p : Int) (h : okEnd a p) (w : World) (T : Pow w) :
    Calls Tryz.prog 20 #[.agg #[.int .i64 a, .int .i64 p]] w fun e w' => e = .returned (.string ⟨(Lib.itoa a ++ 58 :: Lib.itoa p).toArray⟩) ∧ Below w.heap.size w w' := by
  obtain ⟨g1, g2, g3, g4⟩ := h
  have HT : Hid (Pow w) := T
  have l1 := itoa_len g1 (by omega)
  have l2 := itoa_len (show 0 ≤ p by omega) (by omega)
  clear T
  go_enter Tryz.func20, Tryz.ntmps20
  go_wp2_with fail
  go_region_with (first
    | (go_at_call_of 34 (Value.int IntKind.i64 a); refine (itoa_any a (by omega) (by omega) _ ?_).mono ?_; exact HT.out.below (by repeat (first | exact Below.refl _ _ | refine Below.drew ?_ | refine Below.alloc ?_ (Nat.le_refl _) _)); rintro e w1 ⟨rfl, hb⟩;
        have d1 : w1.cell? ⟨w.heap.size, 1, none⟩ = some (.int .i64 p) := (below_keeps hb (by simp [go_sem])); have HB1 : Hid (Below w.heap.size w w1) := (Below.trans (by repeat (first | exact Below.refl _ _ | refine Below.drew ?_ | refine Below.alloc ?_ (Nat.le_refl _) _)) (hb.mono (by simp [go_sem]))); clear hb)
    | (go_at_call_of 34 (Value.int IntKind.i64 p); refine (itoa_any p (by omega) (by omega) _ ?_).mono ?_; exact HT.out.below HB1.out; rintro e w2 ⟨rfl, hb⟩; have HB2 : Hid (Below w.heap.size w w2) := HB1.out.trans (hb.mono HB1.out.size); clear hb))
  all_goals go_wp2_with fail
  all_goals go_ret
  all_goals refine ⟨?_, HB2.out⟩
  all_goals exact congrArg (fun x : ByteArray => Ending.returned (.string x)) (by apply ByteArray.ext; simp [ByteArray.data_append])
end Go.Proofs.YtlogpnanfamjeaaGreatDoor
