/-
  The law's ruled.
-/
import Derived.Test.YtpmoamfhppmicaaGreatDoorPoF
import Derived.Test.YtpmoamfhppmicaaGreatDoorPoG
namespace Go.Proofs.YtpmoamfhppmicaaGreatDoor
open Go.RowKit

/-- what the policies' walks lean on. -/
structure EnvQ (w : World) (s : Nat → Addr) : Prop where
  s : Sen w s
  t : Pow w
  n : PNm w
theorem EnvQ.below {w w' : World} {s : Nat → Addr} (E : EnvQ w s) (h : Below w.heap.size w w') : EnvQ w' s := ⟨E.s.below h, E.t.below h, E.n.below h⟩
theorem r0ok : RulesOk [⟨true, true, 0, 5, 9⟩] := ⟨by decide, by decide⟩
theorem r0text : textL [⟨true, true, 0, 5, 9⟩] = [97, 108, 108, 111, 119, 32, 111, 117, 116, 32, 97, 110, 121, 32, 53, 45, 57, 10] := by decide +kernel
theorem r0pk : pkErr 1 0 1 0 9 0 = 0 := by decide
set_option maxRecDepth 100000 in
set_option maxHeartbeats 2000000 in
theorem ruled_any (s : Nat → Addr) (w : World) (E : EnvQ w s) : Calls Tryz.prog 5 #[] w fun e w' => e = .returned (.bool true) ∧ Below w.heap.size w w' := by
  have HE : Hid (EnvQ w s) := E
  clear E
  go_enter Tryz.func5, Tryz.ntmps5
  go_wp2_with fail
  have b1 : Hid (Below w.heap.size w (w.alloc (.cells #[.bool true, .bool true, .int .i64 0, .int .i64 5, .int .i64 9] 42))) := (Below.refl _ _).alloc (Nat.le_refl _) _
  have R1 : Hid (Rul (w.alloc (.cells #[.bool true, .bool true, .int .i64 0, .int .i64 5, .int .i64 9] 42)) (some ⟨w.heap.size, 0, none⟩) [⟨true, true, 0, 5, 9⟩]) := fun i r hr => by
    match i, hr with
    | 0, hr =>
      obtain rfl := Option.some.inj hr
      exact ⟨_, _, rfl, by simp, by simp, by simp, by simp, by simp⟩
  refine (admits_any (some ⟨w.heap.size, 0, none⟩) [⟨true, true, 0, 5, 9⟩] 1 1 0 1 0 9 0 true s _ (HE.out.s.below b1.out) R1.out (by decide)).mono ?_
  rintro e w1 ⟨⟨v, b, rfl, hv⟩, hb1⟩
  obtain ⟨rfl, rfl⟩ : v = .nilIface ∧ b = true := by
    rcases hv with ⟨h1, _⟩ | ⟨_, ⟨k, h1, _⟩, _⟩ | ⟨_, _, h1, h2⟩
    · exact absurd r0ok h1
    · rw [r0pk] at h1; cases h1
    · exact ⟨h1, h2.trans (by decide)⟩
  have R2 : Hid (Rul w1 (some ⟨w.heap.size, 0, none⟩) [⟨true, true, 0, 5, 9⟩]) := R1.out.below hb1
  have B1 : Hid (Below w.heap.size w w1) := below2 b1.out hb1
  clear hv hb1
  go_wp2_with fail
  refine (ptext_ok (some ⟨w.heap.size, 0, none⟩) [⟨true, true, 0, 5, 9⟩] 1 s _ (HE.out.s.below B1.out) (HE.out.t.below B1.out) (HE.out.n.below B1.out) R2.out r0ok).mono ?_
  rintro e w2 ⟨rfl, hb2⟩
  have B2 : Hid (Below w.heap.size w w2) := below2 B1.out hb2
  clear hb2
  rw [r0text]
  go_wp2_with fail
  go_ret
  exact ⟨rfl, B2.out⟩
end Go.Proofs.YtpmoamfhppmicaaGreatDoor
