/-
  The law PolicyReads, walked.
-/
import Derived.Test.YtpmoamfhppmicaaGreatDoorRrC
import Derived.Test.YtpmoamfhppmicaaGreatDoorRrA
import Derived.Test.YtpmoamfhppmicaaGreatDoorPaF
import Derived.Test.YtpmoamfhppmicaaGreatDoorPoH
import Derived.Deep.RegionHeld3
namespace Go.Proofs.YtpmoamfhppmicaaGreatDoor
open Go.RowKit

theorem chk_below {s : Nat → Addr} {w w' : World} {l : List Rl} {v : Value} (h : ChkV s w l v) (hb : Below w.heap.size w w') : ChkV s w' l v := by
  rcases h with h | h | ⟨h1, i, g, h2, h3, h4, h5⟩
  · exact .inl h
  · exact .inr (.inl h)
  · exact .inr (.inr ⟨h1, i, g, h2, h3, Below.keeps hb h4, Below.keeps hb h5⟩)
theorem rdv_below {s : Nat → Addr} {w w' : World} {x : ByteArray} {v e : Value} (h : RdV s w x v e) (hb : Below w.heap.size w w') : RdV s w' x v e := by
  rcases h with h | h | ⟨h1, h2, h3⟩
  · exact .inl h
  · exact .inr (.inl h)
  · refine .inr (.inr ⟨h1, h2, ?_⟩)
    rcases h3 with ⟨i, g, k1, k2, k3, k4, k5⟩ | ⟨k1, ⟨k2, k3, k4⟩ | ⟨k2, k3, k4⟩⟩
    · exact .inl ⟨i, g, k1, k2, k3, Below.keeps hb k4, Below.keeps hb k5⟩
    · exact .inr ⟨k1, .inl ⟨k2, k3, k4.below hb⟩⟩
    · exact .inr ⟨k1, .inr ⟨k2, chk_below k3 hb, k4⟩⟩
/-- the same rules, twice. -/
def SameV2 (W : World) (v v' : Value) : Prop := ∃ l : List Rl, Sl W v l ∧ Sl W v' l ∧ l.length ≤ 20 ∧ ∀ r ∈ l, r.ok
theorem same_nil (W : World) : SameV2 W (.slice none 0 0) (.slice none 0 0) := ⟨[], .inl ⟨rfl, rfl⟩, .inl ⟨rfl, rfl⟩, by simp, fun r h => by cases h⟩
theorem SameV2.below {W W' : World} {v v' : Value} (h : SameV2 W v v') (hb : Below W.heap.size W W') : SameV2 W' v v' := by
  obtain ⟨l, h1, h2, h3⟩ := h
  exact ⟨l, h1.below hb, h2.below hb, h3⟩
theorem fault_two {l : List Rl} (e : Value) (f : Int × Int) (hf : f = faultOf l) {s : Nat → Addr} {W : World} (h : ChkV s W l e) (S : Sents W s) :
    Calls Tryz.prog 9 #[e, .agg #[.int .i64 f.1, .int .i64 f.2]] W fun e w' => e = .returned (.bool true) ∧ Below W.heap.size W w' := by
  subst hf; exact faulted_chk s W S h
theorem reads_both {s : Nat → Addr} {W : World} {x : ByteArray} {v e v' : Value} {f : Int × Int} (h : RdV s W x v e) (h' : RfV W x v' f) :
    SameV2 W v v' ∧ ∀ W', Below W.heap.size W W' → Sents W' s → Calls Tryz.prog 9 #[e, .agg #[.int .i64 f.1, .int .i64 f.2]] W' fun e w' => e = .returned (.bool true) ∧ Below W'.heap.size W' w' := by
  rcases h with ⟨h1, rfl, rfl⟩ | ⟨h1, rfl, rfl⟩ | ⟨h1, h2, h3⟩
  · rcases h' with ⟨_, rfl, rfl⟩ | ⟨g, _⟩ | ⟨_, g, _⟩
    · exact ⟨same_nil W, fun W' _ S => faulted_sent 1 (by omega) s W' S⟩
    · omega
    · omega
  · rcases h' with ⟨g, _⟩ | ⟨_, rfl, rfl⟩ | ⟨g, _⟩
    · omega
    · exact ⟨same_nil W, fun W' _ S => faulted_nil _ W'⟩
    · omega
  · rcases h' with ⟨g, _⟩ | ⟨g, _⟩ | ⟨_, _, h4⟩
    · omega
    · omega
    · rcases h3 with ⟨i, g, k1, rfl, rfl, k4, k5⟩ | ⟨k1, k2⟩
      · rcases h4 with ⟨i', m1, rfl, rfl⟩ | ⟨m1, _⟩
        · obtain rfl : i = i' := Option.some.inj (k1.symm.trans m1)
          exact ⟨same_nil W, fun W' hb S => faulted_fault 0 (by omega) g i s W' S (Below.keeps hb k4) (Below.keeps hb k5)⟩
        · rw [k1] at m1; cases m1
      · rcases h4 with ⟨i', m1, _⟩ | ⟨m1, rfl, m2⟩
        · rw [k1] at m1; cases m1
        · rcases k2 with ⟨k2, rfl, k3⟩ | ⟨k2, k3, rfl⟩
          · rcases m2 with ⟨_, m3⟩ | ⟨m3, _⟩
            · refine ⟨⟨_, k3, m3, k2.1, chkAt_none.1 k2.2⟩, fun W' _ S => ?_⟩
              rw [fok k2]
              exact faulted_nil _ W'
            · exact absurd k2 m3
          · rcases m2 with ⟨m3, _⟩ | ⟨_, rfl⟩
            · exact absurd m3 k2
            · exact ⟨same_nil W, fun W' hb S => fault_two _ _ rfl (chk_below k3 hb) S⟩
/-- what the law leans on. -/
structure EnvR (w : World) (s : Nat → Addr) : Prop where
  s : Sents w s
  l : Libs w
  t : Pow w
  n : PNm w
theorem EnvR.below {w w' : World} {s : Nat → Addr} (E : EnvR w s) (h : Below w.heap.size w w') : EnvR w' s := ⟨E.s.below h, E.l.below h, E.t.below h, E.n.below h⟩
theorem EnvR.q {w : World} {s : Nat → Addr} (E : EnvR w s) : EnvQ w s := ⟨⟨E.s.c1, E.s.c2⟩, E.t, E.n⟩
set_option maxRecDepth 100000 in
set_option maxHeartbeats 4000000 in
theorem preads_law (x : ByteArray) (s : Nat → Addr) (w : World) (E : EnvR w s) :
    Calls Tryz.prog 4 #[.string x] w fun e w' => e = .returned (.bool true) ∧ Below w.heap.size w w' := by
  have HE : Hid (EnvR w s) := E
  clear E
  go_enter Tryz.func4, Tryz.ntmps4
  go_wp2_with fail
  refine (ruled_any s _ HE.out.q).mono ?_
  rintro e w1 ⟨rfl, hb1⟩
  have B1 : Hid (Below w.heap.size w w1) := hb1
  clear hb1
  by_cases hs1 : 3200 < x.size
  · have hs2 : (3200 : Int) < (x.size : Int) := by omega
    go_wp2_with fail
    all_goals go_ret
    all_goals exact ⟨rfl, B1.out⟩
  have hz1 : decide ((3200 : Int) < (x.size : Int)) = false := decide_eq_false (by omega)
  have hs2 : ¬ (3200 : Int) < (x.size : Int) := by omega
  go_wp2_with fail
  refine (pread_any x s _ (HE.out.below B1.out).s (HE.out.below B1.out).l (HE.out.below B1.out).t (HE.out.below B1.out).n).mono ?_
  rintro e w2 ⟨⟨v, y, rfl, hV⟩, hb2⟩
  have V2 : Hid (RdV s w2 x v y) := hV
  have B2 : Hid (Below w.heap.size w w2) := below2 B1.out hb2
  clear hV hb2
  go_wp2_with fail
  refine (rof_any x _).mono ?_
  rintro e w3 ⟨⟨v', f, rfl, hV'⟩, hb3⟩
  have B3 : Hid (Below w.heap.size w w3) := below2 B2.out hb3
  obtain ⟨hsame, hflt⟩ := reads_both (rdv_below V2.out hb3) hV'
  have SM : Hid (SameV2 w3 v v') := hsame
  have FL : Hid (∀ W', Below w3.heap.size w3 W' → Sents W' s → Calls Tryz.prog 9 #[y, .agg #[.int .i64 f.1, .int .i64 f.2]] W' fun e w' => e = .returned (.bool true) ∧ Below W'.heap.size W' w') := hflt
  clear hV' hb3 hsame hflt V2
  obtain ⟨fc, fa⟩ := f
  simp only at FL ⊢
  have X : Hid (Below w3.heap.size w3 (w3.alloc (.cells #[.int .i64 fc, .int .i64 fa] 30))) := (Below.refl _ _).alloc (Nat.le_refl _) _
  go_wp2_with fail
  refine (FL.out _ X.out (HE.out.s.below (below2 B3.out X.out))).mono ?_
  rintro e w4 ⟨rfl, hb4⟩
  have B4 : Hid (Below w.heap.size w w4) := below2 (below2 B3.out X.out) hb4
  obtain ⟨l, h1, h2, h3, h4⟩ := SM.out.below (below2 X.out hb4)
  obtain ⟨p1, k1, rfl, R1⟩ := h1.open
  obtain ⟨p2, k2, rfl, R2⟩ := h2.open
  have HR1 : Hid (Rul w4 p1 l) := R1
  have HR2 : Hid (Rul w4 p2 l) := R2
  have HOK : Hid (∀ r ∈ l, r.ok) := h4
  clear hb4 h1 h2 h4 R1 R2 SM
  go_wp2_with fail
  refine (sameRules_any p1 p2 l k1 k2 _ HR1.out HR2.out (by omega) HOK.out).mono ?_
  rintro e w5 ⟨rfl, hb5⟩
  have B5 : Hid (Below w.heap.size w w5) := below2 B4.out hb5
  clear hb5
  go_wp2_with fail
  go_ret
  exact ⟨rfl, B5.out⟩
end Go.Proofs.YtpmoamfhppmicaaGreatDoor
