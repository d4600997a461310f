/-
  Package world's Many.
-/
import Derived.Test.YtenonidmgpmohaaGreatDoorKn
namespace Go.Proofs.YtenonidmgpmohaaGreatDoor
open Go.RowKit

theorem many_wd {w : World} {K : WK} {x : Wo} (hb : WdB w K x) (hf : FlP w K x) :
    Calls Tryz.prog 60 #[.pointer (some ⟨K.wb, 0, none⟩)] w fun e w' => e = .returned (.int .i64 x.fl.length) ∧ w' = w := by
  have c7 : w.cell? ⟨K.wb, 7, none⟩ = some (slV K.fg x.fl.length) := hb.c 7
  obtain ⟨p, c, e⟩ := hf.sl
  rw [e] at c7
  clear e hb hf
  go_enter Tryz.func60, Tryz.ntmps60
  go_wp2_with fail
  go_ret
  exact ⟨rfl, rfl⟩
end Go.Proofs.YtenonidmgpmohaaGreatDoor
