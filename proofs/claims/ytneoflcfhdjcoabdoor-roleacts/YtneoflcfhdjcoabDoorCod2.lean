/-
  What the second laws' 'coded' answers for nil, a sentinel, an error by its number.
-/
import Derived.Test.YtneoflcfhdjcoabDoorCode
import Derived.Test.YtneoflcfhdjcoabDoorGeP
namespace Go.Proofs.YtneoflcfhdjcoabDoor
open Go.RowKit

theorem coded2_nil (n : Int) (w : World) : Calls Tryd.prog 62 #[.nilIface, .int .i64 n] w fun e w' => e = .returned (.bool (n == 0)) ∧ w' = w := by
  by_cases h : n = 0
  · subst h
    go_enter Tryd.func62, Tryd.ntmps62
    go_wp2_with fail
    refine (code_nil _).mono ?_
    rintro e w' ⟨rfl, rfl⟩
    go_wp2_with fail
    go_ret
    exact ⟨rfl, rfl⟩
  · have h1 : ((0 : Int) == n) = false := beq_eq_false_iff_ne.2 (fun x => h x.symm)
    have h2 : (n == (0 : Int)) = false := beq_eq_false_iff_ne.2 h
    rw [h2]
    clear h2
    go_enter Tryd.func62, Tryd.ntmps62
    go_wp2_with fail
    refine (code_nil _).mono ?_
    rintro e w' ⟨rfl, rfl⟩
    go_wp2_with fail
    go_ret
    exact ⟨rfl, rfl⟩

theorem coded2_sent (k : Nat) (hk : k < 11) (n : Int) (s : Nat → Addr) (w : World) (S : Sents w s) :
    Calls Tryd.prog 62 #[.iface 211 (.pointer (some (s k))), .int .i64 n] w fun e w' => e = .returned (.bool (n == (k : Int) + 1)) ∧ Below w.heap.size w w' := by
  have hS : Hid (Sents w s) := S
  clear S
  by_cases h : n = (k : Int) + 1
  · have h1 : ((k : Int) + 1 == n) = true := beq_iff_eq.2 h.symm
    have h2 : (n == (k : Int) + 1) = true := beq_iff_eq.2 h
    rw [h2]
    clear h2 h
    go_enter Tryd.func62, Tryd.ntmps62
    go_wp2_with fail
    refine (code_sent k hk s _ hS.out).mono ?_
    rintro e w' ⟨rfl, hb⟩
    go_wp2_with fail
    go_ret
    exact ⟨rfl, hb⟩
  · have h1 : ((k : Int) + 1 == n) = false := beq_eq_false_iff_ne.2 (fun x => h x.symm)
    have h2 : (n == (k : Int) + 1) = false := beq_eq_false_iff_ne.2 h
    rw [h2]
    clear h2 h
    go_enter Tryd.func62, Tryd.ntmps62
    go_wp2_with fail
    refine (code_sent k hk s _ hS.out).mono ?_
    rintro e w' ⟨rfl, hb⟩
    go_wp2_with fail
    go_ret
    exact ⟨rfl, hb⟩
/-- an error by its number, held against another number. -/
theorem coded2_any (n : Nat) (hn : n ≤ 11) (m : Int) (s : Nat → Addr) (w : World) (S : Sents w s) :
    Calls Tryd.prog 62 #[terr s n, .int .i64 m] w fun e w' => e = .returned (.bool (m == (n : Int))) ∧ Below w.heap.size w w' := by
  cases n with
  | zero =>
    refine (coded2_nil m w).mono ?_
    rintro e w' ⟨rfl, rfl⟩
    exact ⟨rfl, Below.refl _ _⟩
  | succ k =>
    refine (coded2_sent k (by omega) m s w S).mono ?_
    rintro e w' ⟨rfl, hb⟩
    exact ⟨rfl, hb⟩
end Go.Proofs.YtneoflcfhdjcoabDoor
