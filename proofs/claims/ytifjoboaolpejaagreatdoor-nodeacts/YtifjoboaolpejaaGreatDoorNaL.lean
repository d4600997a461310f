/-
  The law NodeActs.
-/
import Derived.Test.YtifjoboaolpejaaGreatDoorNaD
import Derived.Test.YtifjoboaolpejaaGreatDoorLk
import Derived.Test.YtifjoboaolpejaaGreatDoorRnN
import Derived.Test.YtifjoboaolpejaaGreatDoorLd
import Derived.Test.YtifjoboaolpejaaGreatDoorLj
namespace Go.Proofs.YtifjoboaolpejaaGreatDoor
open Go.RowKit

theorem stB_se (x : ByteArray) : stB x.data.toList = x := by apply ByteArray.ext; simp [stB]
theorem NB.lift {w0 w : World} {k : Bk} {r : RBk} {x z : No} {j j' i i' : Nat} (h : NB w0 w k r x j z i) (hj : j ≤ j') (hi : i ≤ i') : NB w0 w k r x j' z i' := by
  obtain ⟨n, hn, a⟩ := h.p
  obtain ⟨q, lo, h1, h2, d⟩ := h.d
  have b1 := h.nx
  have b2 := h.nz
  exact { h with p := ⟨n, by omega, a.mr (by omega)⟩, d := ⟨q, lo, by omega, h2, (d.more (by omega)).mi' (by omega)⟩, nx := by omega, nz := by omega }
set_option maxRecDepth 100000 in
set_option maxHeartbeats 8000000 in
theorem nacts_law (id : Int) (x : ByteArray) (vr va : Value) (ru : List Rl) (l : List Ac) (s : Nat → Addr) (w : World) (S : Sents w s) (R : Sl w vr ru) (A : AcsI w va l) :
    Calls Tryz.prog 3 #[.int .i64 id, .string x, vr, va] w fun e w' => e = .returned (.bool true) ∧ Below w.heap.size w w' := by
  have HS : Hid (Sents w s) := S
  have HA : Hid (AcsI w va l) := A
  obtain ⟨rp, rc, hrv, hru⟩ := R.open
  have HR : Hid (Sl w (.slice rp ru.length rc) ru ∧ Rul w rp ru) := ⟨hrv ▸ R, hru⟩
  subst hrv
  obtain ⟨ap, ac, rfl, hmx, hl⟩ := A
  have HL : Hid (l.length ≤ maxLen ∧ ∀ (i : Nat) a, l[i]? = some a → AcOk w a ∧ ∃ b o, ap = some ⟨b, o, none⟩ ∧ ∀ (j : Nat) u, (acC a)[j]? = some u → w.cell? ⟨b, o + i * 14 + j, none⟩ = some u) := ⟨hmx, hl⟩
  clear S R hru hmx hl
  go_enter Tryz.func3, Tryz.ntmps3
  go_wp2_with fail
  refine (wakes_any s w HS.out.mm.n).mono ?_
  rintro e w1 ⟨rfl, hb1⟩
  have B1 : Hid (Below w.heap.size w w1) := hb1
  clear hb1
  by_cases h64 : x.size = 64
  rotate_left
  · have hn64 : ((x.size : Int) != 64) = true := by rw [bne_iff_ne]; omega
    go_wp2_with fail
    go_ret
    exact ⟨rfl, B1.out⟩
  have hn64 : ((x.size : Int) != 64) = false := by rw [h64]; rfl
  by_cases h30 : (30 : Int) < (ru.length : Int)
  · go_wp2_with fail
    go_ret
    exact ⟨rfl, B1.out⟩
  have HR30 : Hid (ru.length ≤ 30) := (by omega : ru.length ≤ 30)
  go_wp2_with fail
  refine (afit_any _ l w1 (HA.out.below B1.out)).mono ?_
  rintro e w2 ⟨⟨fb, rfl, hfit⟩, hb2⟩
  have B2 : Hid (Below w.heap.size w w2) := t2 B1.out hb2
  have HF0 : Hid (fb = true → l.length ≤ 80 ∧ ∀ a ∈ l, a.Fit) := hfit
  clear hb2 hfit B1
  cases fb
  · go_wp2_with fail
    go_ret
    exact ⟨rfl, B2.out⟩
  have HF : Hid (l.length ≤ 80 ∧ ∀ a ∈ l, a.Fit) := HF0.out rfl
  clear HF0
  go_wp2_with fail
  refine (newBytes_any w2).mono ?_
  rintro e w3 ⟨⟨rfl, hy⟩, hb3⟩
  have B3 : Hid (Below w.heap.size w w3) := t2 B2.out hb3
  have HBG : Hid (w.heap.size ≤ w2.heap.size) := B2.out.size
  generalize w2.heap.size = b at hy HBG ⊢
  have Y3 : Hid (Byt w3 b new0) := hy
  clear hy hb3 B2
  obtain ⟨L, hL⟩ : ∃ L, L = x.data.toList := ⟨_, rfl⟩
  have HX : Hid (x = stB L) := by show _ = _; rw [hL, stB_se]
  have HLL : Hid (L.length = 64) := by show _ = _; rw [hL]; simpa using h64
  have LO : Hid (Calls Tryz.prog 7 #[.pointer (some ⟨b, 0, none⟩), .string x] w3 fun e w' => e = .returned .nilIface ∧ Byt w' b ⟨L, true, false, 0⟩ ∧ Chg b w3 w') := by
    rw [HX.out]; exact lay_ok b new0 L w3 Y3.out HLL.out
  clear hL h64
  go_wp2_with fail
  refine LO.out.mono ?_
  rintro e w4 ⟨rfl, hy4, hx4⟩
  have Y4 : Hid (Byt w4 b ⟨L, true, false, 0⟩) := hy4
  have B4 : Hid (Below w.heap.size w w4) := Chg.below B3.out hx4 HBG.out
  clear hy4 hx4 Y3 B3 LO hn64 h30
  go_wp2_with fail
  refine (own_at _ ru w4 (HR.out.1.below B4.out) (by have := HR30.out; omega)).mono ?_
  rintro e w5 ⟨⟨v5, rfl, r5, f5⟩, hb5⟩
  have B5 : Hid (Below w.heap.size w w5) := t2 B4.out hb5
  have Y5 : Hid (Byt w5 b ⟨L, true, false, 0⟩) := Y4.out.below hb5
  have R5 : Hid (Sl w5 v5 ru ∧ ∀ a n c, v5 = .slice (some a) n c → a.block ≠ b) := ⟨r5, fun a n c e => by have h1 := (f5 a n c e).1; have h2 := Y4.out.lt; omega⟩
  clear r5 f5 hb5 B4 Y4
  go_wp2_with fail
  by_cases hid : id = 0 ∨ id = 1
  rotate_left
  · refine (new_badid (HS.out.below B5.out).mm id (by omega) (by omega) b v5).mono ?_
    rintro e w6 ⟨rfl, hb6⟩
    have B6 : Hid (Below w.heap.size w w6) := t2 B5.out hb6
    clear hb6
    have h22 : ((2 : Int) == ((2 : Nat) : Int)) = true := rfl
    go_wp2_with fail
    all_goals
      refine (coded2_any 2 (by omega) 2 s w6 (HS.out.below B6.out)).mono ?_
      rintro e w7 ⟨rfl, hb7⟩
      have B7 : Hid (Below w.heap.size w w7) := t2 B6.out hb7
      clear hb7
      rw [h22]
      go_wp2_with fail
      go_ret
      exact ⟨rfl, B7.out⟩
  obtain ⟨nid, rfl⟩ : ∃ nid : Nat, id = nid := ⟨id.toNat, by omega⟩
  have HID : Hid (nid < 2) := (by omega : nid < 2)
  have hi0 : ¬ (nid : Int) < 0 := by omega
  have hi1 : ¬ 1 < (nid : Int) := by omega
  clear hid
  by_cases hok : RulesOk ru
  rotate_left
  · refine (new_badru (HS.out.below B5.out).mm nid HID.out b v5 ru R5.out.1 (by have := HR30.out; omega) hok).mono ?_
    rintro e w6 ⟨⟨u6, rfl, ck6⟩, hb6⟩
    have B6 : Hid (Below w.heap.size w w6) := t2 B5.out hb6
    have C6 : Hid (ChkV s w6 ru u6) := ck6
    clear hb6 ck6
    go_wp2_with fail
    refine (rfault_any rp ru rc w6 (HR.out.2.below B6.out) (by have := HR30.out; omega)).mono ?_
    rintro e w7 ⟨rfl, hb7⟩
    have B7 : Hid (Below w.heap.size w w7) := t2 B6.out hb7
    have C7 : Hid (ChkV s w7 ru u6) := by
      rcases C6.out with q | q | ⟨q1, i, g, q2, q3, q4, q5⟩
      · exact Or.inl q
      · exact Or.inr (Or.inl q)
      · exact Or.inr (Or.inr ⟨q1, i, g, q2, q3, tk hb7 q4, tk hb7 q5⟩)
    obtain ⟨f2, hf2⟩ : ∃ f2, faultOf ru = (2, f2) := by
      unfold faultOf
      by_cases h20 : 20 < ru.length
      · rw [if_pos h20]; exact ⟨_, rfl⟩
      · rw [if_neg h20]
        cases hc : chkAt ru 0 with
        | none => exact absurd ⟨by omega, hc⟩ hok
        | some i0 => exact ⟨_, rfl⟩
    have FA : Hid (∀ u, Below w7.heap.size w7 u → Calls Tryz.prog 12 #[u6, .agg #[.int .i64 2, .int .i64 f2]] u fun e w' => e = .returned (.bool true) ∧ Below u.heap.size u w') := fun u hu => by
      have ck : ChkV s u ru u6 := by
        rcases C7.out with q | q | ⟨q1, i, g, q2, q3, q4, q5⟩
        · exact Or.inl q
        · exact Or.inr (Or.inl q)
        · exact Or.inr (Or.inr ⟨q1, i, g, q2, q3, tk hu q4, tk hu q5⟩)
      have h := faulted2_chk (l := ru) s u ((HS.out.below B7.out).below hu) ck
      rw [hf2] at h
      exact h
    rw [hf2]
    clear hb7 hf2 hok C6 C7 B6
    go_wp2_with fail
    refine (FA.out _ (aB w7 (.cells #[.int .i64 2, .int .i64 f2] 37))).mono ?_
    rintro e w8 ⟨rfl, hb8⟩
    have B8 : Hid (Below w.heap.size w w8) := t2 (t2 B7.out (aB _ _)) hb8
    clear hb8
    go_wp2_with fail
    go_ret
    exact ⟨rfl, B8.out⟩
  have HOK : Hid (RulesOk ru) := hok
  clear hok
  obtain ⟨PE, hPE⟩ : ∃ PE, putE false ⟨L, true, false, 0⟩ (newest L).e ((newest L).l + 1) = PE := ⟨_, rfl⟩
  have HPE : Hid (putE false ⟨L, true, false, 0⟩ (newest L).e ((newest L).l + 1) = PE) := hPE
  clear hPE
  have HPE0 : Hid (putE false (⟨L, true, false, 0⟩ : By) (newest (⟨L, true, false, 0⟩ : By).B).e ((newest (⟨L, true, false, 0⟩ : By).B).l + 1) = PE) := HPE.out
  have FO : Hid (faultOf ru = (0, -1)) := by show _ = _; unfold faultOf; rw [if_neg (by have := HOK.out.1; omega), HOK.out.2]
  by_cases hz : PE.1 = 0
  rotate_left
  · have HZ : Hid (PE.1 ≠ 0) := hz
    clear hz
    refine (new_badce HS.out.mm nid b HID.out ⟨L, true, false, 0⟩ v5 ru Y5.out HBG.out B5.out (by show 0 ≤ _; omega) R5.out.1 HOK.out rfl (by show (putE _ _ _ _).1 ≠ 0; rw [HPE.out]; exact HZ.out)).mono ?_
    rintro e w6 ⟨rfl, k6⟩
    have B6 : Hid (Below w.heap.size w w6) := ChgL.below B5.out k6 (fun g hg => by simp at hg; rw [hg]; exact HBG.out)
    clear k6
    rw [HPE0.out]
    go_wp2_with fail
    refine (rfault_any rp ru rc w6 (HR.out.2.below B6.out) (by have := HR30.out; omega)).mono ?_
    rintro e w7 ⟨rfl, hb7⟩
    rw [FO.out]
    have B7 : Hid (Below w.heap.size w w7) := t2 B6.out hb7
    clear hb7 B6
    go_wp2_with fail
    have hy8 := heap_alloc_new (w7.alloc (.cells #[.int .i64 0, .int .i64 (-1)] 37)) (.cells #[.string x, .bool false, .int .i64 0, .bool false] 42)
    simp only [World.size_alloc] at hy8
    have Y8 : Hid (RBy ((w7.alloc (.cells #[.int .i64 0, .int .i64 (-1)] 37)).alloc (.cells #[.string x, .bool false, .int .i64 0, .bool false] 42)) (w7.heap.size + 1) ⟨L, true, false, 0⟩ 0) := by show RBy _ _ _ _; unfold RBy; rw [hy8, HX.out]; rfl
    have K8 : Hid (Below w7.heap.size w7 ((w7.alloc (.cells #[.int .i64 0, .int .i64 (-1)] 37)).alloc (.cells #[.string x, .bool false, .int .i64 0, .bool false] 42))) := t2 (aB _ _) (aB _ _)
    have HYB : Hid (w7.heap.size < w7.heap.size + 1) := Nat.lt_succ_self _
    clear hy8
    generalize (w7.alloc (.cells #[.int .i64 0, .int .i64 (-1)] 37)).alloc (.cells #[.string x, .bool false, .int .i64 0, .bool false] 42) = w8 at *
    generalize hyb : w7.heap.size + 1 = yb at Y8 HYB ⊢
    have B8 : Hid (Below w.heap.size w w8) := t2 B7.out K8.out
    have HYW : Hid (w.heap.size ≤ yb) := Nat.le_trans B7.out.size (Nat.le_of_lt HYB.out)
    have HRP : Hid (ru ≠ [] → ∀ a, rp = some a → a.block < w.heap.size) := fun hne a ha => by
      obtain ⟨t0, ht0⟩ := List.exists_mem_of_ne_nil _ hne
      obtain ⟨i0, hi0⟩ := List.getElem?_of_mem ht0
      obtain ⟨b1, o1, e2, c0, _⟩ := HR.out.2 i0 t0 hi0
      rw [ha] at e2
      cases e2
      have q : b1 < w.heap.size := tlt c0
      exact q
    clear hyb
    refine (rnewnode_any (w0 := w) nid HID.out yb ⟨L, true, false, 0⟩ 0 rp rc ru ⟨0, Y8.out, (fun e => by cases e), Int.le_refl _, by omega⟩ (by omega) HLL.out HYW.out B8.out (HR.out.2.below B8.out) (by have := HR30.out; omega) HRP.out).mono ?_
    rintro e w9 ⟨ho, k9⟩
    have B9 : Hid (Below w.heap.size w w9) := ChgL.below B8.out k9 (fun g hg => by simp at hg; rw [hg]; exact HYW.out)
    obtain ⟨n, hn0, hn1, rfl⟩ : ∃ n : Nat, n ≠ 0 ∧ n = PE.1 ∧ e = .returned (.tuple #[.pointer none, .int .i64 (n : Nat)]) := by
      rcases ho with ⟨n, h1, h2, h3⟩ | ⟨h1, _⟩
      · exact ⟨n, h1, by rw [h2, HPE0.out], h3⟩
      · exact absurd (by rw [← HPE0.out]; exact h1) HZ.out
    have HN : Hid (n ≤ 11) := by show n ≤ 11; rw [hn1, ← HPE0.out]; exact putE_le _ _ _ _
    have hgt : (0 : Int) < (n : Int) := by omega
    rw [← hn1]
    clear ho k9 hn0 hn1
    go_wp2_with fail
    refine (coded2_any n HN.out _ s w9 (HS.out.below B9.out)).mono ?_
    rintro e w10 ⟨rfl, hb10⟩
    have B10 : Hid (Below w.heap.size w w10) := t2 B9.out hb10
    have hee : ((n : Int) == (n : Int)) = true := beq_self_eq_true _
    rw [hee]
    clear hb10
    go_wp2_with fail
    go_ret
    exact ⟨rfl, B10.out⟩
  have HZ : Hid (PE.1 = 0) := hz
  clear hz
  have HNK : Hid (NewOk nid ⟨L, true, false, 0⟩ ru) := ⟨HID.out, HOK.out, rfl, (putE_new (s := ⟨L, true, false, 0⟩) HLL.out (by show (putE _ _ _ _).1 = 0; rw [HPE.out]; exact HZ.out)).2.2, by show (putE _ _ _ _).1 = 0; rw [HPE.out]; exact HZ.out⟩
  refine (new_nd2 HS.out.mm.n nid b ⟨L, true, false, 0⟩ v5 ru Y5.out HBG.out B5.out (by show 0 ≤ _; omega) R5.out.1 R5.out.2 HNK.out).mono ?_
  rintro e w6 ⟨⟨k, rfl, hkb, nd6, hk1, hk2⟩, k6⟩
  have N6 : Hid (Nd w w6 k (No.new nid ⟨L, true, false, 0⟩ ru) 0 0) := nd6
  have HKB : Hid (k.yb = b ∧ (∀ g ∈ k.all, g = b ∨ w5.heap.size ≤ g) ∧ (ru ≠ [] → ∀ a, k.rp = some a → w5.heap.size ≤ a.block)) := ⟨hkb, hk1, hk2⟩
  have B6 : Hid (Below w.heap.size w w6) := N6.out.bl
  clear nd6 hkb hk1 hk2 k6
  go_wp2_with fail
  refine (rfault_any rp ru rc w6 (HR.out.2.below B6.out) (by have := HR30.out; omega)).mono ?_
  rintro e w7 ⟨rfl, hb7⟩
  rw [FO.out]
  have N7 : Hid (Nd w w7 k (No.new nid ⟨L, true, false, 0⟩ ru) 0 0) := N6.out.below hb7
  have B7 : Hid (Below w.heap.size w w7) := t2 B6.out hb7
  clear hb7 N6 B6
  go_wp2_with fail
  have hy8 := heap_alloc_new (w7.alloc (.cells #[.int .i64 0, .int .i64 (-1)] 37)) (.cells #[.string x, .bool false, .int .i64 0, .bool false] 42)
  simp only [World.size_alloc] at hy8
  have Y8 : Hid (RBy ((w7.alloc (.cells #[.int .i64 0, .int .i64 (-1)] 37)).alloc (.cells #[.string x, .bool false, .int .i64 0, .bool false] 42)) (w7.heap.size + 1) ⟨L, true, false, 0⟩ 0) := by show RBy _ _ _ _; unfold RBy; rw [hy8, HX.out]; rfl
  have K8 : Hid (Below w7.heap.size w7 ((w7.alloc (.cells #[.int .i64 0, .int .i64 (-1)] 37)).alloc (.cells #[.string x, .bool false, .int .i64 0, .bool false] 42))) := t2 (aB _ _) (aB _ _)
  have HYB : Hid (w7.heap.size < w7.heap.size + 1) := Nat.lt_succ_self _
  clear hy8
  generalize (w7.alloc (.cells #[.int .i64 0, .int .i64 (-1)] 37)).alloc (.cells #[.string x, .bool false, .int .i64 0, .bool false] 42) = w8 at *
  generalize hyb : w7.heap.size + 1 = yb at Y8 HYB ⊢
  have B8 : Hid (Below w.heap.size w w8) := t2 B7.out K8.out
  have HYW : Hid (w.heap.size ≤ yb) := Nat.le_trans B7.out.size (Nat.le_of_lt HYB.out)
  have HRP : Hid (ru ≠ [] → ∀ a, rp = some a → a.block < w.heap.size) := fun hne a ha => by
    obtain ⟨t0, ht0⟩ := List.exists_mem_of_ne_nil _ hne
    obtain ⟨i0, hi0⟩ := List.getElem?_of_mem ht0
    obtain ⟨b1, o1, e2, c0, _⟩ := HR.out.2 i0 t0 hi0
    rw [ha] at e2
    cases e2
    have q : b1 < w.heap.size := tlt c0
    exact q
  clear hyb
  refine (rnewnode_any (w0 := w) nid HID.out yb ⟨L, true, false, 0⟩ 0 rp rc ru ⟨0, Y8.out, (fun e => by cases e), Int.le_refl _, by omega⟩ (by omega) HLL.out HYW.out B8.out (HR.out.2.below B8.out) (by have := HR30.out; omega) HRP.out).mono ?_
  rintro e w9 ⟨ho, k9⟩
  have HYK : Hid (¬ yb ∈ k.all) := fun hm => by have h1 := N7.out.lt yb hm; have h2 := HYB.out; omega
  obtain ⟨r, he, hry, hrg, rn9⟩ : ∃ r : RBk, e = .returned (.tuple #[.pointer (some ⟨r.nd, 0, none⟩), .int .i64 0]) ∧ r.yb = yb ∧ (∀ g ∈ r.all, g = yb ∨ w8.heap.size ≤ g) ∧ RNd w w9 r (No.new nid ⟨L, true, false, 0⟩ ru) ⟨nid, (newest L).e, 0, false⟩ (0 - 20) 0 0 := by
    rcases ho with ⟨n, h1, h2, _⟩ | ⟨_, r, h1, h2, h3, h4⟩
    · exact absurd (h2.trans (by rw [HPE0.out]; exact HZ.out)) h1
    · exact ⟨r, h1, h2, h3, h4⟩
  subst he
  have N9 : Hid (NB w w9 k r (No.new nid ⟨L, true, false, 0⟩ ru) 0 (No.new nid ⟨L, true, false, 0⟩ ru) 0) := by
    have n8 := N7.out.below K8.out
    have n9 := n8.kept k9 (fun g hg hm => by simp at hm; exact HYK.out (hm ▸ hg)) (fun hne a e hm => by
      simp at hm
      have h1 := N7.out.rlt2 hne a e
      have h2 := HYB.out
      omega) (fun g hg => by simp at hg; rw [hg]; exact HYW.out)
    refine ⟨⟨0, by omega, n9⟩, ⟨_, 0 - 20, by omega, by omega, rn9⟩, ⟨Int.le_refl _, Int.le_refl _⟩, ⟨Int.le_refl _, Int.le_refl _⟩, HOK.out, fun g hg hm => ?_, fun hne a e hm => ?_⟩
    · rcases hrg g hg with q | q
      · exact HYK.out (q ▸ hm)
      · have h1 := N7.out.lt g hm
        have h2 := K8.out.size
        omega
    · have h1 := N7.out.rlt2 hne a e
      have h2 := K8.out.size
      have h3 := HYB.out
      rcases hrg _ hm with q | q
      · omega
      · omega
  have NS0 : Hid (NS w w9 k.nd b r.nd yb 0) := ⟨k, r, _, 0, 0, N9.out, Nat.le_refl _, Nat.le_refl _, rfl, HKB.out.1, rfl, hry⟩
  clear ho k9 hry hrg rn9 N9 N7 B7 K8 Y8 B8
  have hmx : (l.length : Int) ≤ 80 := by have := HF.out.1; omega
  go_wp2_with fail
  go_loopw [17] (fun t wr => ∃ i : Nat, i ≤ l.length ∧ t = .int .i64 i ∧ NS w wr k.nd b r.nd yb (i * 1000)) (fun t _ => l.length - (intOf t).toNat)
  case atStart => exact ⟨0, by omega, rfl, by rw [Nat.zero_mul]; exact NS0.out⟩
  case round =>
    obtain ⟨i, hi, rfl, hns⟩ := hrel
    have NR : Hid (NS w wr k.nd b r.nd yb (i * 1000)) := hns
    have BR : Hid (Below w.heap.size w wr) := by obtain ⟨k', r', x', j1, i1, nb, _⟩ := hns; exact nb.bl
    clear hns NS0
    by_cases hlt : i < l.length
    · have i0 : (0 : Int) ≤ (i : Int) := by omega
      have i1 : (i : Int) < (l.length : Int) := by omega
      obtain ⟨a, ha⟩ : ∃ a, l[i]? = some a := ⟨l[i], List.getElem?_eq_getElem hlt⟩
      obtain ⟨ok, ab, ao, rfl, hc⟩ := HL.out.2 i a ha
      have HOA : Hid (AcOk w a ∧ a.Fit ∧ i ≤ 80) := ⟨ok, HF.out.2 a (List.mem_of_getElem? ha), by have := HF.out.1; omega⟩
      obtain ⟨qp, qc, hqv, _⟩ := ok.ru.open
      obtain ⟨xp, xc, hxv, _⟩ := ok.cs.open
      have HQV : Hid (a.rv = .slice qp a.ru.length qc ∧ a.xv = .slice xp a.x.cs.length xc) := ⟨hqv, hxv⟩
      have c0 : wr.cell? ⟨ab, ao + i * 14, none⟩ = some (.string a.kd) := tk BR.out (hc 0 _ rfl)
      have c1 : wr.cell? ⟨ab, ao + i * 14 + 1, none⟩ = some (.int .i64 a.n) := tk BR.out (hc 1 _ rfl)
      have c2 : wr.cell? ⟨ab, ao + i * 14 + 2, none⟩ = some (.int .i64 a.p.pr) := tk BR.out (hc 2 _ rfl)
      have c3 : wr.cell? ⟨ab, ao + i * 14 + 3, none⟩ = some (.int .i64 a.p.a1) := tk BR.out (hc 3 _ rfl)
      have c4 : wr.cell? ⟨ab, ao + i * 14 + 4, none⟩ = some (.int .i64 a.p.p1) := tk BR.out (hc 4 _ rfl)
      have c5 : wr.cell? ⟨ab, ao + i * 14 + 5, none⟩ = some (.int .i64 a.p.a2) := tk BR.out (hc 5 _ rfl)
      have c6 : wr.cell? ⟨ab, ao + i * 14 + 6, none⟩ = some (.int .i64 a.p.p2) := tk BR.out (hc 6 _ rfl)
      have c7 : wr.cell? ⟨ab, ao + i * 14 + 7, none⟩ = some (.int .i64 a.p.fl) := tk BR.out (hc 7 _ rfl)
      have c8 : wr.cell? ⟨ab, ao + i * 14 + 8, none⟩ = some (.int .i64 a.x.fr) := tk BR.out (hc 8 _ rfl)
      have c9 : wr.cell? ⟨ab, ao + i * 14 + 9, none⟩ = some (.int .i64 a.x.li) := tk BR.out (hc 9 _ rfl)
      have c10 : wr.cell? ⟨ab, ao + i * 14 + 10, none⟩ = some (.int .i64 a.x.ep) := tk BR.out (hc 10 _ rfl)
      have c11 : wr.cell? ⟨ab, ao + i * 14 + 11, none⟩ = some (.bool a.x.cl) := tk BR.out (hc 11 _ rfl)
      have c12 : wr.cell? ⟨ab, ao + i * 14 + 12, none⟩ = some (.slice xp a.x.cs.length xc) := tk BR.out (hc 12 _ (by rw [← hxv]; rfl))
      have c13 : wr.cell? ⟨ab, ao + i * 14 + 13, none⟩ = some (.slice qp a.ru.length qc) := tk BR.out (hc 13 _ (by rw [← hqv]; rfl))
      have AC : Hid (Calls Tryz.prog 14 #[.pointer (some ⟨k.nd, 0, none⟩), .pointer (some ⟨r.nd, 0, none⟩), .pointer (some ⟨b, 0, none⟩), .pointer (some ⟨yb, 0, none⟩), .agg #[.string a.kd, .int .i64 a.n, .int .i64 a.p.pr, .int .i64 a.p.a1, .int .i64 a.p.p1, .int .i64 a.p.a2, .int .i64 a.p.p2, .int .i64 a.p.fl, .int .i64 a.x.fr, .int .i64 a.x.li, .int .i64 a.x.ep, .bool a.x.cl, .slice xp a.x.cs.length xc, .slice qp a.ru.length qc]] wr fun e w' => e = .returned (.bool true) ∧ NS w w' k.nd b r.nd yb (i * 1000 + 1000)) := by
        obtain ⟨k', r', x', j1, i1, nb, h1, h2, e1, e2, e3, e4⟩ := NR.out
        have h := act_any HS.out (nb.lift h1 h2) (by have := HOA.out.2.2; omega) a HOA.out.1 HOA.out.2.1
        rw [HQV.out.1, HQV.out.2, e1, e2, e3, e4] at h
        exact h
      clear hqv hxv ok hc ha
      go_wp2_with fail
      refine AC.out.mono ?_
      rintro e w2 ⟨rfl, ns2⟩
      have N2 : Hid (NS w w2 k.nd b r.nd yb ((i + 1) * 1000)) := by show NS _ _ _ _ _ _ _; rw [Nat.add_mul, Nat.one_mul]; exact ns2
      clear ns2 c0 c1 c2 c3 c4 c5 c6 c7 c8 c9 c10 c11 c12 c13 AC
      have AS : Hid (Calls Tryz.prog 15 #[.pointer (some ⟨k.nd, 0, none⟩), .pointer (some ⟨r.nd, 0, none⟩)] w2 fun e w' => e = .returned (.int .i64 1) ∧ Below w2.heap.size w2 w') := by
        obtain ⟨k', r', x', j1, i1, nb, h1, h2, e1, e2, e3, e4⟩ := N2.out
        have h := asnode_any (nb.lift h1 h2)
        rw [e1, e3] at h
        exact h
      go_wp2_with fail
      obtain ⟨Bt, AL⟩ : ∃ Bt, Hid (w2.cell? ⟨yb, 0, none⟩ = some (.string Bt) ∧ ∀ u, Below w2.heap.size w2 u → Calls Tryz.prog 16 #[.pointer (some ⟨b, 0, none⟩)] u fun e w' => e = .returned (.string Bt) ∧ w' = u) := by
        obtain ⟨k', r', x', j1, i1, nb, h1, h2, e1, e2, e3, e4⟩ := N2.out
        obtain ⟨n, _, nd⟩ := nb.p
        obtain ⟨q, lo, _, _, rd⟩ := nb.d
        obtain ⟨lv, ry, _⟩ := rd.yb
        refine ⟨stB x'.y.B, ?_, fun u hu => ?_⟩
        · rw [← e4]
          exact (cell_of_row w2 r'.yb _ _ _ _ ry).trans rfl
        · rw [← e2]
          exact all_any k'.yb x'.y u (nd.below hu).yb
      have hS : w2.drew.cell? ⟨yb, 0, none⟩ = some (.string Bt) := AL.out.1
      have AS2 : Hid (Calls Tryz.prog 15 #[.pointer (some ⟨k.nd, 0, none⟩), .pointer (some ⟨r.nd, 0, none⟩)] w2.drew fun e w' => e = .returned (.int .i64 1) ∧ Below w2.drew.heap.size w2.drew w') := by
        obtain ⟨k', r', x', j1, i1, nb, h1, h2, e1, e2, e3, e4⟩ := N2.out
        have h := asnode_any ((nb.lift h1 h2).below (Below.refl _ _).drew)
        rw [e1, e3] at h
        exact h
      have hbb : (Bt.toList == Bt.toList) = true := beq_self_eq_true _
      clear AS
      go_region_held3 (fun w' => w'.cell? ⟨yb, 0, none⟩ = some (.string Bt))
        (first | exact hS | exact s3)
        (first
          | (go_at_call 15; refine AS2.out.mono ?_; clear AS2; rintro e w3 ⟨rfl, b3⟩; have s3 : w3.cell? ⟨yb, 0, none⟩ = some (.string Bt) := tk b3 hS; have B3 : Hid (Below w2.heap.size w2 w3) := t2 (Below.refl _ _).drew b3; clear b3)
          | (go_at_call 16; refine (AL.out.2 w3 B3.out).mono ?_; rintro e w4 ⟨rfl, hw4⟩; obtain rfl := hw4.symm; clear hw4))
      have N3 : Hid (NS w w3 k.nd b r.nd yb ((i + 1) * 1000)) := by
        obtain ⟨k', r', x', j1, i1, nb, h⟩ := N2.out
        exact ⟨k', r', x', j1, i1, nb.below B3.out, h⟩
      go_wp2_with fail
      go_roundw
      case rel => exact ⟨i + 1, by omega, by go_num, N3.out⟩
      case measure => simp [intOf]; omega
    · obtain rfl : i = l.length := by omega
      go_wp2_with fail
      go_ret
      exact ⟨rfl, BR.out⟩
end Go.Proofs.YtifjoboaolpejaaGreatDoor
