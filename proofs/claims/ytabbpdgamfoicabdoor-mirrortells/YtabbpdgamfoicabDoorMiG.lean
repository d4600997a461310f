/-
  The laws' closed fact 'mirrored': what is told is there.
-/
import Derived.Test.YtabbpdgamfoicabDoorMiE
import Derived.Test.YtabbpdgamfoicabDoorMiF
namespace Go.Proofs.YtabbpdgamfoicabDoor
open Go.RowKit

def firstC : Tc := ⟨5, ⟨1, 1, 0, 0, 0, 0, 0, 0, 0⟩⟩
theorem first_E : tellE 0 3 [firstC] = 0 := by decide
theorem first_life : tellLife 0 3 [firstC] = 3 := by decide
theorem first_fl : (flL (tellT 0 3 newT [firstC]) 32).length = 1 := by decide
/-- one told cell in memory of its own. -/
theorem tcR_one {w : World} {g : Nat} {x : Tc} (h : TcAt w g 0 x) : TcR w (some ⟨g, 0, none⟩) [x] := fun i y hy => by
  cases i with
  | zero =>
    simp at hy
    subst hy
    exact ⟨g, 0, rfl, h⟩
  | succ i => simp at hy
theorem ownsRow_slice {w : World} {base ty sz : Nat} {v : Value} {n : Nat} {cs : List Value} (h : w.ownsRow base ty sz v n cs) : ∃ p cap, v = .slice p n cap := by
  obtain ⟨_, h2⟩ := h
  rcases h2 with ⟨rfl, h0⟩ | ⟨g, cap, cur, rfl, _⟩
  · exact ⟨none, 0, by rw [h0]⟩
  · exact ⟨_, _, rfl⟩
set_option maxRecDepth 100000 in
set_option maxHeartbeats 4000000 in
theorem mirrored_any (s : Nat → Addr) (w : World) (S : Se2 w s) :
    Calls Tryd.prog 29 #[] w fun e w' => e = .returned (.bool true) ∧ Below w.heap.size w w' := by
  have HS : Hid (Se2 w s) := S
  clear S
  go_enter Tryd.func29, Tryd.ntmps29
  go_wp2_with fail
  refine (mnew_any _).mono ?_
  rintro e w1 ⟨⟨b, rfl, hm1, hbb⟩, hb1⟩
  have M1 : Hid (Mir w1 b 0 newT) := hm1
  have HBB : Hid (w.heap.size ≤ b) := hbb
  have B1 : Hid (Below w.heap.size w w1) := hb1
  clear hm1 hbb hb1
  go_wp2_with fail
  refine (mlife_any b 0 newT _ M1.out).mono ?_
  rintro e w2 ⟨rfl, rfl⟩
  go_wp2_with fail
  refine (tell_any b 3 0 newT [firstC] (some ⟨w2.heap.size, 0, none⟩) 1 s _ (HS.out.below (t2 B1.out (aB _ _))) (M1.out.below (aB _ _)) (tcR_one (tcAt_new w2 firstC _)) ?_ (by decide)).mono ?_
  · intro g o e he
    have h1 := M1.out.lt
    injection e with e
    injection e with e1
    omega
  rw [first_E, first_life]
  rintro e w3 ⟨rfl, hm3, hc3⟩
  obtain ⟨T3, hT3⟩ : ∃ T3, T3 = tellT 0 3 newT [firstC] := ⟨_, rfl⟩
  have HF : Hid ((flL T3 32).length = 1) := by show _ = _; rw [hT3]; exact first_fl
  rw [← hT3] at hm3
  have M3 : Hid (Mir w3 b 3 T3) := hm3
  have B3 : Hid (Below w.heap.size w w3) := Chg.below (t2 B1.out (aB _ _)) hc3 HBB.out
  clear hm3 hc3 hT3
  simp only [terr]
  go_wp2_with fail
  refine (mlife_any b 3 T3 _ M3.out).mono ?_
  rintro e w4 ⟨rfl, rfl⟩
  go_wp2_with fail
  refine (mflows_any b 3 T3 _ M3.out).mono ?_
  rintro e w5 ⟨⟨v, rfl, ho⟩, hb5⟩
  rw [HF.out] at ho
  obtain ⟨p, cap, rfl⟩ := ownsRow_slice ho
  have M5 : Hid (Mir w5 b 3 T3) := M3.out.below hb5
  have B5 : Hid (Below w.heap.size w w5) := t2 B3.out hb5
  clear ho hb5
  go_wp2_with fail
  refine (mcells_any b 3 T3 _ M5.out).mono ?_
  rintro e w6 ⟨rfl, _, hb6⟩
  have B6 : Hid (Below w.heap.size w w6) := t2 B5.out hb6
  clear hb6
  go_wp2_with fail
  go_ret
  exact ⟨rfl, B6.out⟩
end Go.Proofs.YtabbpdgamfoicabDoor
