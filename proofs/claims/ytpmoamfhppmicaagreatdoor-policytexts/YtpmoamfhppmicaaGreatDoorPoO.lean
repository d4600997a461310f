/-
  A law's OwnRules.
-/
import Derived.Test.YtpmoamfhppmicaaGreatDoorPoG
namespace Go.Proofs.YtpmoamfhppmicaaGreatDoor
open Go.RowKit

set_option maxRecDepth 100000 in
set_option maxHeartbeats 2000000 in
theorem own_at (v : Value) (l : List Rl) (w : World) (R : Sl w v l) (hl : l.length ≤ 1000) :
    Calls Tryz.prog 7 #[v] w fun e w' => (∃ v', e = .returned v' ∧ Sl w' v' l ∧ ∀ a n c, v' = .slice (some a) n c → w.heap.size ≤ a.block ∧ a.block < w'.heap.size) ∧ Below w.heap.size w w' := by
  obtain ⟨i0, hi, hz0, hz1, hz2⟩ := info_parts Tryz.infoRl
  rcases R with ⟨rfl, rfl⟩ | ⟨a, cap, rfl, _, _, R⟩
  · go_enter Tryz.func7, Tryz.ntmps7
    go_wp2_with (at_builtin; refine wpList_append_own_none rfl _ _ 22 rfl w.heap.size 42 i0 5 Tryz.underlying22 hi _ 0 [] rfl (World.ownsRow_nil _ _ _ _) rfl ?_)
    go_ret
    exact ⟨⟨_, rfl, .inl ⟨rfl, rfl⟩, fun a n c e => by cases e⟩, Below.refl _ _⟩
  · have HR : Hid (Rul w (some a) l) := R
    clear R
    go_enter Tryz.func7, Tryz.ntmps7
    go_wp2_with (at_builtin; refine wpList_append_own _ rfl _ _ 22 rfl w.heap.size 42 i0 _ 5 32 Tryz.underlying22 hi hz0 hz1 hz2 rfl (by decide) _ 0 [] rfl (World.ownsRow_nil _ _ _ _) a l.length cap (cellsL l) rfl (cellsL_len l) HR.out.at (cellsL_one l) (by unfold maxLen; omega) (by omega) (Nat.le_refl _) ?_)
    intro v' w1 hown hgrow _
    have HO : Hid (Sl w1 v' l) := (Sl.of_own (n := 0 + l.length) (by simpa using hown)).1
    have HA : Hid (∀ a n c, v' = .slice (some a) n c → w.heap.size ≤ a.block ∧ a.block < w1.heap.size) := fun a n c e => by
      rcases hown.2 with ⟨q, _⟩ | ⟨g, cap', cur, q, q1, q2, _⟩
      · rw [q] at e; cases e
      · rw [q] at e
        cases e
        refine ⟨q1, ?_⟩
        rcases Nat.lt_or_ge g w1.heap.size with a | a
        · exact a
        · rw [Array.getElem?_eq_none a] at q2; cases q2
    have HG : Hid (Below w.heap.size w w1) := (Below.refl _ _).grown hgrow (Nat.le_refl _) (fun j hj => by cases hj)
    clear hown hgrow
    go_wp2_with fail
    go_ret
    exact ⟨⟨_, rfl, HO.out, HA.out⟩, HG.out⟩
theorem own_any (v : Value) (l : List Rl) (w : World) (R : Sl w v l) (hl : l.length ≤ 1000) :
    Calls Tryz.prog 7 #[v] w fun e w' => (∃ v', e = .returned v' ∧ Sl w' v' l) ∧ Below w.heap.size w w' :=
  (own_at v l w R hl).mono fun _ _ ⟨⟨v', e, S, _⟩, hb⟩ => ⟨⟨v', e, S⟩, hb⟩
end Go.Proofs.YtpmoamfhppmicaaGreatDoor
