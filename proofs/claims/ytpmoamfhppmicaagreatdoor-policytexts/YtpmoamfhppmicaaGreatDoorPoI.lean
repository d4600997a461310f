/-
  strconv.Itoa, by the library's contract at this program's numbers.
-/
import Derived.Test.YtpmoamfhppmicaaGreatDoorPoC
import Derived.Test.YtpmoamfhppmicaaGreatDoorShelf
import Derived.Test.YtpmoamfhppmicaaGreatDoorNum
namespace Go.Proofs.YtpmoamfhppmicaaGreatDoor
open Go.RowKit

/-- the library's table lies as laid. -/
def Pow (w : World) : Prop := Lib.TabIs Tryz.prog w "internal/strconv.uint64pow10" .u64 Lib.pow10Tab

theorem Pow.below {w w' : World} (T : Pow w) (h : Below w.heap.size w w') : Pow w' := by
  unfold Pow Lib.TabIs at *
  unfold World.var? at *
  cases hg : Tryz.prog.globalNamed "internal/strconv.uint64pow10" with
  | none => rw [hg] at T; cases T
  | some g =>
    rw [hg] at T
    simp only [Option.bind_some] at T ⊢
    rw [h.block g (by
      rcases Nat.lt_or_ge g w.heap.size with h' | h'
      · exact h'
      · simp [Array.getElem?_eq_none h'] at T)]
    exact T
theorem grow_below (w : World) (k : Nat) (zs : Array Obj) : Below w.heap.size w (Sort.grow (w.drewN k) zs) :=
  ⟨rfl, rfl, rfl, by show _ ≤ (w.heap ++ zs).size; simp, fun k hk => by show (w.heap ++ zs)[k]? = _; rw [Array.getElem?_append_left hk]⟩
theorem itoa_any (n : Int) (h0 : -9223372036854775808 ≤ n) (h1 : n ≤ 9223372036854775807) (w : World) (T : Pow w) :
    Calls Tryz.prog 30 #[.int .i64 n] w fun e w' => e = .returned (.string ⟨(Lib.itoa n).toArray⟩) ∧ Below w.heap.size w w' := by
  refine (Tryz.strconv_Itoa n h0 h1 w T).mono fun e w' ⟨he, k, os, hw⟩ => ⟨he, ?_⟩
  rw [hw]; exact grow_below _ _ _
end Go.Proofs.YtpmoamfhppmicaaGreatDoor
