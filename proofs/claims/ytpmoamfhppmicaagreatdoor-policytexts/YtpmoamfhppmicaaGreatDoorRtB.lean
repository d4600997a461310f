/-
  Package policy's Text of rules that are none.
-/
import Derived.Test.YtpmoamfhppmicaaGreatDoorPoF
namespace Go.Proofs.YtpmoamfhppmicaaGreatDoor
open Go.RowKit

set_option maxRecDepth 100000 in
set_option maxHeartbeats 2000000 in
theorem ptext_bad (p : Option Addr) (l : List Rl) (cap : Nat) (s : Nat → Addr) (w : World) (S : Sen w s) (R : Rul w p l) (hl : l.length ≤ 1000) (h : ¬ RulesOk l) :
    Calls Tryz.prog 6 #[.slice p l.length cap] w fun e w' => (∃ v, e = .returned (.tuple #[.string ⟨#[]⟩, v]) ∧ ChkV s w' l v) ∧ Below w.heap.size w w' := by
  have HR : Hid (Rul w p l) := R
  have HS : Hid (Sen w s) := S
  have HK : Hid (¬ RulesOk l) := h
  clear R S h
  go_enter Tryz.func6, Tryz.ntmps6
  go_wp2_with fail
  refine (pcheck_any p l cap s _ HS.out HR.out hl).mono ?_
  rintro e w1 ⟨⟨v, rfl, hv⟩, hb1⟩
  have B1 : Hid (Below w.heap.size w w1) := hb1
  have HV : Hid (ChkV s w1 l v) := hv
  clear hb1
  obtain ⟨t, a, rfl⟩ : ∃ t a, v = .iface t (.pointer (some a)) := by
    rcases hv with ⟨_, rfl⟩ | ⟨h1, h2, _⟩ | ⟨_, i, g, _, rfl, _⟩
    · exact ⟨_, _, rfl⟩
    · exact absurd ⟨h1, h2⟩ HK.out
    · exact ⟨_, _, rfl⟩
  clear hv
  go_wp2_with fail
  go_ret2
  exact ⟨⟨_, rfl, HV.out⟩, B1.out⟩
end Go.Proofs.YtpmoamfhppmicaaGreatDoor
