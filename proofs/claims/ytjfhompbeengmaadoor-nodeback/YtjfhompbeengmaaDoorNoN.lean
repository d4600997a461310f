/-
  Package node's note.
-/
import Derived.Test.YtjfhompbeengmaaDoorNoC
import Derived.OwnWalk
namespace Go.Proofs.YtjfhompbeengmaaDoor
open Go.RowKit

set_option maxRecDepth 100000 in
set_option maxHeartbeats 2000000 in
theorem note_nd {w0 w : World} {k : Bk} {x : No} {m n : Nat} (h : Nd w0 w k x m n) (cl : Bool) (p : Option Addr) (a c : Nat) :
    Calls Tryd.prog 45 #[.pointer (some ⟨k.nd, 0, none⟩), .bool cl, .slice p a c] w fun e w' => e = .returned (.agg #[.int .i64 x.id, .int .i64 x.life, .int .i64 x.ro.ep, .bool cl, .slice p a c]) ∧ Below w.heap.size w w' := by
  have HN : Hid (Nd w0 w k x m n) := h
  have HE : Hid (∀ u, Rol u k.ro x.ro → Calls Tryd.prog 13 #[.pointer (some ⟨k.ro, 0, none⟩)] u fun e w' => e = .returned (.int .i64 x.ro.ep) ∧ w' = u) := fun u R => epochR_any k.ro x.ro u R
  clear h
  go_enter Tryd.func45, Tryd.ntmps45
  go_wp2_with fail
  have B1 : Hid (Below w.heap.size w (w.alloc (.cells #[.int .i64 0, .int .i64 0, .int .i64 0, .bool false, .slice none 0 0] 111))) := aB _ _
  have N1 : Hid (Nd w0 (w.alloc (.cells #[.int .i64 0, .int .i64 0, .int .i64 0, .bool false, .slice none 0 0] 111)) k x m n) := HN.out.below B1.out
  have c0 : (w.alloc (.cells #[.int .i64 0, .int .i64 0, .int .i64 0, .bool false, .slice none 0 0] 111)).drew.cell? ⟨k.nd, 0, none⟩ = some (.pointer (some ⟨k.ro, 0, none⟩)) := N1.out.c0
  have c1 : (w.alloc (.cells #[.int .i64 0, .int .i64 0, .int .i64 0, .bool false, .slice none 0 0] 111)).drew.cell? ⟨k.nd, 1, none⟩ = some (.int .i64 x.id) := N1.out.c1
  have c2 : (w.alloc (.cells #[.int .i64 0, .int .i64 0, .int .i64 0, .bool false, .slice none 0 0] 111)).drew.cell? ⟨k.nd, 2, none⟩ = some (.int .i64 x.life) := N1.out.c2
  have R1 : Hid (Rol (w.alloc (.cells #[.int .i64 0, .int .i64 0, .int .i64 0, .bool false, .slice none 0 0] 111)).drew k.ro x.ro) := N1.out.drew.ro
  go_region_with (first
    | (go_at_call 13; refine (HE.out _ R1.out).mono ?_; rintro e w2 ⟨rfl, hw2⟩; obtain rfl := hw2.symm))
  all_goals go_wp2_with fail
  all_goals exact bodyPost_ret (v := .agg #[.int .i64 x.id, .int .i64 x.life, .int .i64 x.ro.ep, .bool cl, .slice p a c]) (by simp [results, Tryd.results45, go_sem]) rfl ⟨rfl, ((Below.refl _ _).alloc (Nat.le_refl _) _).drew⟩
end Go.Proofs.YtjfhompbeengmaaDoor
