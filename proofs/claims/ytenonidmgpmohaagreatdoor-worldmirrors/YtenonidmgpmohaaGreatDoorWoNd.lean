/-
  Package world's Node.
-/
import Derived.Test.YtenonidmgpmohaaGreatDoorKm
namespace Go.Proofs.YtenonidmgpmohaaGreatDoor
open Go.RowKit

/-- a node of a world. -/
theorem node_wd {w0 w : World} {K : WK} {x : Wo} {t : Nat} {s : Nat → Addr} (S : SeM w0 s) (h : Wd w0 w K x t) (n : Int) :
    Calls Tryz.prog 9 #[.pointer (some ⟨K.wb, 0, none⟩), .int .i64 n] w fun e w' => ((∃ i y k, n = ((i : Nat) : Int) ∧ i < 2 ∧ x.nd i = some y ∧ K.nk i = some k ∧ e = .returned (.tuple #[.pointer (some ⟨k.nd, 0, none⟩), .nilIface])) ∨ (∃ e1, x.upE n = e1 + 1 ∧ e = .returned (.tuple #[.pointer none, .iface 215 (.pointer (some (s e1)))]))) ∧ Below w.heap.size w w' := by
  have HS : Hid (SeM w0 s) := S
  have HW : Hid (Wd w0 w K x t) := h
  clear S h
  go_enter Tryz.func9, Tryz.ntmps9
  go_wp2_with fail
  refine (up_any HS.out HW.out n).mono ?_
  rintro e w1 ⟨rfl, hb1⟩
  have B1 : Hid (Below w.heap.size w w1) := hb1
  have W1 : Hid (Wd w0 w1 K x t) := HW.out.below hb1
  clear hb1
  rcases up_cases s x K.wb n with ⟨i, y, hn, hi, hy, he, hv⟩ | ⟨e, he, hv⟩
  · rw [hv]
    obtain ⟨k, m', n', hk, _⟩ := W1.out.up hi hy
    have HX : Hid (n = ((i : Nat) : Int) ∧ i < 2 ∧ x.nd i = some y ∧ K.nk i = some k) := ⟨hn, hi, hy, hk⟩
    have cn := W1.out.wb.cn hi
    rw [hk] at cn
    simp only [ndV, Option.map_some] at cn
    clear hv hn hi hy he hk
    go_wp2_with fail
    go_ret2
    exact ⟨.inl ⟨i, y, k, HX.out.1, HX.out.2.1, HX.out.2.2.1, HX.out.2.2.2, rfl⟩, B1.out⟩
  · rw [hv]
    have HX : Hid (x.upE n = e + 1) := he
    clear hv he
    go_wp2_with fail
    go_ret2
    exact ⟨.inr ⟨e, HX.out, rfl⟩, B1.out⟩
end Go.Proofs.YtenonidmgpmohaaGreatDoor
