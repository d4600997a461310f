/-
  The law PolicyTexts, walked.
-/
import Derived.Test.YtpmoamfhppmicaaGreatDoorPoO
import Derived.Test.YtpmoamfhppmicaaGreatDoorRtA
import Derived.Test.YtpmoamfhppmicaaGreatDoorRtB
import Derived.Test.YtpmoamfhppmicaaGreatDoorRtM
import Derived.Test.YtpmoamfhppmicaaGreatDoorRrA
import Derived.Test.YtpmoamfhppmicaaGreatDoorPaF
import Derived.Test.YtpmoamfhppmicaaGreatDoorPoH
namespace Go.Proofs.YtpmoamfhppmicaaGreatDoor
open Go.RowKit

/-- what the law leans on. -/
structure EnvR (w : World) (s : Nat → Addr) : Prop where
  s : Sents w s
  l : Libs w
  t : Pow w
  n : PNm w
theorem EnvR.below {w w' : World} {s : Nat → Addr} (E : EnvR w s) (h : Below w.heap.size w w') : EnvR w' s := ⟨E.s.below h, E.l.below h, E.t.below h, E.n.below h⟩
theorem EnvR.q {w : World} {s : Nat → Addr} (E : EnvR w s) : EnvQ w s := ⟨⟨E.s.c1, E.s.c2⟩, E.t, E.n⟩
theorem chk_keep {s : Nat → Addr} {w w' : World} {l : List Rl} {v : Value} (h : ChkV s w l v) (hb : Below w.heap.size w w') : ChkV s w' l v := by
  rcases h with h | h | ⟨h1, i, g, h2, h3, h4, h5⟩
  · exact .inl h
  · exact .inr (.inl h)
  · exact .inr (.inr ⟨h1, i, g, h2, h3, Below.keeps hb h4, Below.keeps hb h5⟩)
theorem f_ok {l : List Rl} (h : RulesOk l) : faultOf l = (0, -1) := by unfold faultOf; rw [if_neg (by have := h.1; omega), h.2]
theorem f_bad {l : List Rl} (h : ¬ RulesOk l) : (faultOf l).1 = 2 := by
  unfold faultOf
  split
  · rfl
  · split
    · rfl
    · rename_i h1 h2; exact absurd ⟨by omega, h2⟩ h
theorem flt_is {l : List Rl} {v : Value} {fc fa : Int} {s : Nat → Addr} {W : World} (hF : faultOf l = (fc, fa)) (S : Sents W s) (h : ChkV s W l v) :
    Calls Tryz.prog 9 #[v, .agg #[.int .i64 fc, .int .i64 fa]] W fun e w' => e = .returned (.bool true) ∧ Below W.heap.size W w' := by
  have h1 := faulted_chk s W S h
  rw [hF] at h1
  exact h1
set_option maxRecDepth 100000 in
set_option maxHeartbeats 4000000 in
theorem texts_law (v0 : Value) (l : List Rl) (s : Nat → Addr) (w : World) (E : EnvR w s) (L : Sl w v0 l) :
    Calls Tryz.prog 3 #[v0] w fun e w' => e = .returned (.bool true) ∧ Below w.heap.size w w' := by
  have HE : Hid (EnvR w s) := E
  have HL : Hid (Sl w v0 l) := L
  obtain ⟨q0, k0, hv0, R0⟩ := L.open
  have HR0 : Hid (Rul w q0 l) := R0
  subst hv0
  clear E L R0
  go_enter Tryz.func3, Tryz.ntmps3
  go_wp2_with fail
  refine (ruled_any s _ HE.out.q).mono ?_
  rintro e w1 ⟨rfl, hb1⟩
  have B1 : Hid (Below w.heap.size w w1) := hb1
  clear hb1
  by_cases hs1 : 40 < l.length
  · go_wp2_with fail
    all_goals go_ret
    all_goals exact ⟨rfl, B1.out⟩
  have hz1 : decide ((40 : Int) < (l.length : Int)) = false := decide_eq_false (by omega)
  have hl : l.length ≤ 1000 := by omega
  have hs2 : ¬ (40 : Int) < (l.length : Int) := by omega
  clear hs1
  go_wp2_with fail
  refine (own_any _ l _ (HL.out.below B1.out) hl).mono ?_
  rintro e w2 ⟨⟨v2, rfl, hv2⟩, hb2⟩
  obtain ⟨q2, k2, rfl, hR2⟩ := hv2.open
  have R2 : Hid (Rul w2 q2 l) := hR2
  have B2 : Hid (Below w.heap.size w w2) := below2 B1.out hb2
  clear hv2 hR2 hb2
  by_cases hok : RulesOk l
  · have HOK : Hid (RulesOk l) := hok
    have HF : Hid (faultOf l = (0, -1)) := f_ok hok
    clear hok
    go_wp2_with fail
    refine (ptext_ok q2 l k2 s _ ⟨(HE.out.below B2.out).s.c1, (HE.out.below B2.out).s.c2⟩ (HE.out.below B2.out).t (HE.out.below B2.out).n R2.out HOK.out).mono ?_
    rintro e w3 ⟨rfl, hb3⟩
    have B3 : Hid (Below w.heap.size w w3) := below2 B2.out hb3
    clear hb3 R2
    go_wp2_with fail
    refine (rfault_any q0 l k0 _ (HR0.out.below B3.out) hl).mono ?_
    rintro e w4 ⟨rfl, hb4⟩
    rw [HF.out]
    simp only
    have B4 : Hid (Below w.heap.size w (w4.alloc (.cells #[.int .i64 0, .int .i64 (-1)] 30))) := (below2 B3.out hb4).alloc (below2 B3.out hb4).size _
    clear hb4
    go_upto_region 6 with fail
    have d0 : (w4.alloc (.cells #[.int .i64 0, .int .i64 (-1)] 30)).cell? ⟨w4.heap.size, 0, none⟩ = some (.int .i64 0) := by simp
    generalize w4.alloc (.cells #[.int .i64 0, .int .i64 (-1)] 30) = W4 at *
    generalize w4.heap.size = fb at *
    generalize hT : (⟨(textL l).toArray⟩ : ByteArray) = tx at *
    have HT : Hid ((⟨(textL l).toArray⟩ : ByteArray) = tx) := hT
    clear hT
    go_wp2_with fail
    refine (pread_any tx s _ (HE.out.below B4.out).s (HE.out.below B4.out).l (HE.out.below B4.out).t (HE.out.below B4.out).n).mono ?_
    rintro e w5 ⟨⟨v, y, rfl, hV⟩, hb5⟩
    rw [← HT.out] at hV
    obtain ⟨rfl, hSv⟩ := text_read HOK.out hV
    have B5 : Hid (Below w.heap.size w w5) := below2 B4.out hb5
    have S5 : Hid (Sl w5 v l) := hSv
    clear hV hSv hb5 d0
    go_wp2_with fail
    refine (rtext_any q0 l k0 _ (HR0.out.below B5.out) HOK.out).mono ?_
    rintro e w6 ⟨rfl, hb6⟩
    rw [HT.out]
    have B6 : Hid (Below w.heap.size w w6) := below2 B5.out hb6
    obtain ⟨q6, k6, rfl, hR6⟩ := (S5.out.below hb6).open
    have R6 : Hid (Rul w6 q6 l) := hR6
    clear hb6 hR6 S5
    go_wp2_with fail
    refine (sameRules_any q6 q0 l k6 k0 _ R6.out (HR0.out.below B6.out) hl (chkAt_none.1 HOK.out.2)).mono ?_
    rintro e w7 ⟨rfl, hb7⟩
    have B7 : Hid (Below w.heap.size w w7) := below2 B6.out hb7
    clear hb7
    go_wp2_with fail
    go_ret
    exact ⟨rfl, B7.out⟩
  · have HOK : Hid (¬ RulesOk l) := hok
    obtain ⟨fc, fa, hF⟩ : ∃ fc fa, faultOf l = (fc, fa) := ⟨_, _, rfl⟩
    obtain rfl : fc = 2 := by have := f_bad hok; rw [hF] at this; exact this
    have HF : Hid (faultOf l = (2, fa)) := hF
    clear hok hF
    go_wp2_with fail
    refine (ptext_bad q2 l k2 s _ ⟨(HE.out.below B2.out).s.c1, (HE.out.below B2.out).s.c2⟩ R2.out hl HOK.out).mono ?_
    rintro e w3 ⟨⟨v, rfl, hv⟩, hb3⟩
    have V3 : Hid (ChkV s w3 l v) := hv
    have B3 : Hid (Below w.heap.size w w3) := below2 B2.out hb3
    clear hb3 R2 hv
    go_wp2_with fail
    refine (rfault_any q0 l k0 _ (HR0.out.below B3.out) hl).mono ?_
    rintro e w4 ⟨rfl, hb4⟩
    rw [HF.out]
    simp only
    have X4 : Hid (Below w3.heap.size w3 (w4.alloc (.cells #[.int .i64 2, .int .i64 fa] 30))) := hb4.alloc hb4.size _
    clear hb4
    go_upto_region 6 with fail
    have d0 : (w4.alloc (.cells #[.int .i64 2, .int .i64 fa] 30)).cell? ⟨w4.heap.size, 0, none⟩ = some (.int .i64 2) := by simp
    have d1 : (w4.alloc (.cells #[.int .i64 2, .int .i64 fa] 30)).cell? ⟨w4.heap.size, 1, none⟩ = some (.int .i64 fa) := by simp
    generalize w4.alloc (.cells #[.int .i64 2, .int .i64 fa] 30) = W4 at *
    generalize w4.heap.size = fb at *
    go_wp2_with fail
    refine (flt_is HF.out (HE.out.s.below (below2 B3.out X4.out)) (chk_keep V3.out X4.out)).mono ?_
    rintro e w5 ⟨rfl, hb5⟩
    have B5 : Hid (Below w.heap.size w w5) := below2 (below2 B3.out X4.out) hb5
    clear hb5 d0 d1
    go_wp2_with fail
    go_ret
    exact ⟨rfl, B5.out⟩
end Go.Proofs.YtpmoamfhppmicaaGreatDoor
