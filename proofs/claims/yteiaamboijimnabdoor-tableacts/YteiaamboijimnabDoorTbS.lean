/-
  What the law's 'coded' answers for package table's errors.
-/
import Derived.Test.YteiaamboijimnabDoorTbE
import Derived.Test.YteiaamboijimnabDoorCoded
namespace Go.Proofs.YteiaamboijimnabDoor
open Go.RowKit

theorem Sents.se4 {w : World} {s : Nat → Addr} (S : Sents w s) : Se4 w s := ⟨S.c1, S.c3, S.c4, S.c5⟩
theorem coded_terr (n : Nat) (hn : n ≤ 11) (s : Nat → Addr) (w : World) (S : Sents w s) :
    Calls Tryd.prog 6 #[terr s n, .int .i64 n] w fun e w' => e = .returned (.bool true) ∧ Below w.heap.size w w' := by
  cases n with
  | zero =>
    refine (coded_nil 0 w).mono ?_
    rintro e w' ⟨rfl, rfl⟩
    exact ⟨rfl, Below.refl _ _⟩
  | succ k =>
    refine (coded_sent k (by omega) ((k + 1 : Nat) : Int) s w S).mono ?_
    rintro e w' ⟨rfl, hb⟩
    refine ⟨?_, hb⟩
    rw [beq_iff_eq.2 (by omega)]
end Go.Proofs.YteiaamboijimnabDoor
