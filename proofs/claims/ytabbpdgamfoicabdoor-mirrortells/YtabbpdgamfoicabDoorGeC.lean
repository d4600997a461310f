/-
  What the law's 'coded' answers for an error by its number.
-/
import Derived.Test.YtabbpdgamfoicabDoorGeA
import Derived.Test.YtabbpdgamfoicabDoorCoded
namespace Go.Proofs.YtabbpdgamfoicabDoor
open Go.RowKit

theorem coded_terr (n : Nat) (hn : n ≤ 11) (s : Nat → Addr) (w : World) (S : Sents w s) :
    Calls Tryd.prog 8 #[terr s n, .int .i64 n] w fun e w' => e = .returned (.bool true) ∧ Below w.heap.size w w' := by
  cases n with
  | zero =>
    refine (coded_nil 0 w).mono ?_
    rintro e w' ⟨rfl, rfl⟩
    exact ⟨rfl, Below.refl _ _⟩
  | succ k =>
    refine (coded_sent k (by omega) ((k + 1 : Nat) : Int) s w S).mono ?_
    rintro e w' ⟨rfl, hb⟩
    refine ⟨?_, hb⟩
    rw [beq_iff_eq.2 (by omega)]
end Go.Proofs.YtabbpdgamfoicabDoor
