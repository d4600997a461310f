/-
  Bytes and a cell of them in a law's walk; the laws' closed fact 'kept': what is put is there.
-/
import Derived.Test.YthmnmdikpccenacDoorCeQ
import Derived.Test.YthmnmdikpccenacDoorCeL
namespace Go.Proofs.YthmnmdikpccenacDoor
open Go.RowKit

theorem wrs_left (l : List (Nat × UInt8)) (s : By) : (wrs s l).1.left ≤ s.left := by
  rw [wrs_eq]
  split
  · simp only; split <;> omega
  · split
    · split
      · exact Nat.le_refl _
      · exact Nat.zero_le _
    · exact Nat.le_refl _
theorem putE_left (off : Bool) (s : By) (ep li : Int) : (putE off s ep li).2.1.left ≤ s.left := by
  unfold putE
  repeat' split
  all_goals first | exact Nat.le_refl _ | exact wrs_left _ _
theorem putE_len (off : Bool) (s : By) (ep li : Int) : (putE off s ep li).2.1.B.length = s.B.length := by
  unfold putE
  repeat' split
  all_goals first | rfl | exact wrs_len _ _
/-- what a law has: bytes, and a cell of them. -/
structure Cl (w0 w : World) (b c : Nat) (s : By) (off : Bool) : Prop where
  y : Byt w b s
  e : Cel w c b off
  ne : c ≠ b
  hb : w0.heap.size ≤ b
  hc : w0.heap.size ≤ c
  bl : Below w0.heap.size w0 w
  lf : s.left ≤ 9223372036854775807
theorem Cl.below {w0 w w' : World} {b c : Nat} {s : By} {off : Bool} (h : Cl w0 w b c s off) (k : Below w.heap.size w w') : Cl w0 w' b c s off :=
  ⟨h.y.below k, h.e.below k, h.ne, h.hb, h.hc, t2 h.bl k, h.lf⟩
theorem put_cl {w0 w : World} {b c : Nat} {s : By} {off : Bool} (h : Cl w0 w b c s off) (ep li : Int) (se : Nat → Addr) (E : Se5 w0 se) :
    Calls Tryd.prog 23 #[.pointer (some ⟨c, 0, none⟩), .int .i64 ep, .int .i64 li] w fun e w' => e = .returned (terr se (putE off s ep li).1) ∧ Cl w0 w' b c (putE off s ep li).2.1 (putE off s ep li).2.2 ∧ Chg2 b c w w' := by
  have hg := tlt E.c6
  have hb := h.hb
  have hc := h.hc
  refine (cput_any c b off s ep li se w h.e h.y (E.below h.bl) h.ne (by simp only at hg; omega) (by simp only at hg; omega) h.lf).mono ?_
  rintro e w' ⟨rfl, a1, a2, a3⟩
  exact ⟨rfl, ⟨a1, a2, h.ne, h.hb, h.hc, Chg2.below h.bl a3 h.hb h.hc, Nat.le_trans (putE_left _ _ _ _) h.lf⟩, a3⟩
theorem Cl.setC {w0 w w' : World} {b c : Nat} {s s' : By} {off : Bool} (h : Cl w0 w b c s off) (a : Byt w' b s') (k : Chg b w w') (hl : s'.left ≤ 9223372036854775807) : Cl w0 w' b c s' off :=
  ⟨a, h.e.chg k h.ne, h.ne, h.hb, h.hc, Chg.below h.bl k h.hb, hl⟩
theorem open_cl {w0 w : World} {b c : Nat} {s : By} {off : Bool} (h : Cl w0 w b c s off) (ho : s.on = true) :
    Calls Tryd.prog 19 #[.pointer (some ⟨b, 0, none⟩)] w fun e w' => ∃ c', e = .returned (.tuple #[.pointer (some ⟨c', 0, none⟩), .nilIface]) ∧ Cl w0 w' b c' s false ∧ Cl w0 w' b c s off ∧ Below w.heap.size w w' := by
  refine (open_ok b s w h.y ho).mono ?_
  rintro e w' ⟨⟨rfl, a1⟩, a2⟩
  have := h.y.lt
  exact ⟨_, rfl, ⟨h.y.below a2, a1, by omega, h.hb, h.bl.size, t2 h.bl a2, h.lf⟩, h.below a2, a2⟩
theorem start_cl (w0 w : World) (hb : Below w0.heap.size w0 w) :
    Calls Tryd.prog 7 #[] w fun e w' => ∃ b, e = .returned (.pointer (some ⟨b, 0, none⟩)) ∧ Byt w' b new0 ∧ w0.heap.size ≤ b ∧ Below w0.heap.size w0 w' := by
  refine (newBytes_any w).mono ?_
  rintro e w' ⟨⟨rfl, a1⟩, a2⟩
  exact ⟨_, rfl, a1, hb.size, t2 hb a2⟩
theorem first_cl {w0 w : World} {b : Nat} {s : By} (y : Byt w b s) (hb : w0.heap.size ≤ b) (bl : Below w0.heap.size w0 w) (ho : s.on = true) (hl : s.left ≤ 9223372036854775807) :
    Calls Tryd.prog 19 #[.pointer (some ⟨b, 0, none⟩)] w fun e w' => ∃ c', e = .returned (.tuple #[.pointer (some ⟨c', 0, none⟩), .nilIface]) ∧ Cl w0 w' b c' s false := by
  refine (open_ok b s w y ho).mono ?_
  rintro e w' ⟨⟨rfl, a1⟩, a2⟩
  have := y.lt
  exact ⟨_, rfl, y.below a2, a1, by omega, hb, bl.size, t2 bl a2, hl⟩
theorem new0_newest : newest new0.B = ⟨0, 0, 0⟩ := by
  have h0 : isHeld new0.B 0 = false := unmarked (by decide)
  have h1 : isHeld new0.B 1 = false := unmarked (by decide)
  rw [newest_two, h0, h1]
  rfl
/-- a put that has power, and no cut ahead. -/
theorem put_on {s : By} (h : s.on = true) (hc : s.cut = false) (x : Nm) : (putS s x).2 = true := by
  unfold putS
  rw [wrs_eq, if_pos ⟨h, .inl hc⟩]
theorem kept_put : (putE false new0 4 7).1 = 0 ∧ newest (putE false new0 4 7).2.1.B = ⟨1, 4, 7⟩ ∧ (putE false new0 4 7).2.1.on = true ∧ (putE false new0 4 7).2.2 = false := by
  have hp := put_on (s := new0) rfl rfl (nextNm new0 4 7)
  have hx : nextNm new0 4 7 = ⟨1, 4, 7⟩ := by unfold nextNm; rw [new0_newest]; rfl
  have e : putE false new0 4 7 = (0, (putS new0 (nextNm new0 4 7)).1, false) := by
    unfold putE
    have h1 : badEp 4 7 = false := by decide
    have h2 : oldEp new0 4 7 = false := by unfold oldEp; rw [new0_newest]; rfl
    have h3 : ¬ (newest new0.B).n = 4294967295 := by rw [new0_newest]; simp
    rw [h1, h2, if_neg h3, hp]
    rfl
  have hq := (put_pair (s := new0) (x := nextNm new0 4 7) (by rfl) (by rw [hx, new0_newest]) (by rw [hx]; decide) (by rw [hx]; decide) (by rw [hx]; decide)).1 hp
  rw [e]
  rw [hx] at hq ⊢
  exact ⟨rfl, hq.1, hq.2, rfl⟩
end Go.Proofs.YthmnmdikpccenacDoor
