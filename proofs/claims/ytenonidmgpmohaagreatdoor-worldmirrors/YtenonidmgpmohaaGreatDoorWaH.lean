/-
  What the laws of a world share: rules that are refused; a world that goes through steps.
-/
import Derived.Test.YtenonidmgpmohaaGreatDoorWaF
import Derived.Test.YtenonidmgpmohaaGreatDoorWiA
import Derived.Test.YtenonidmgpmohaaGreatDoorKn
namespace Go.Proofs.YtenonidmgpmohaaGreatDoor
open Go.RowKit

theorem chk_iface {s : Nat → Addr} {w : World} {l : List Rl} {v : Value} (h : ¬ RulesOk l) (c : ChkV s w l v) : ∃ a b, v = .iface a b := by
  rcases c with ⟨_, a⟩ | ⟨a, b, _⟩ | ⟨_, i, g, _, a, _⟩
  · exact ⟨_, _, a⟩
  · exact absurd ⟨a, b⟩ h
  · exact ⟨_, _, a⟩
abbrev PA : Nat → Wo → Prop := fun q W => Ap (q + 1) W
theorem PA.act (q : Nat) (hq : q ≤ 800) (W W' : Wo) (h : PA q W) (hI : In (q + 1) W) (hr : RulesOk W.ru) (s : Stp W W') : PA (q + 1) W' := Ap.stp h hI (by omega) hr s
end Go.Proofs.YtenonidmgpmohaaGreatDoor
