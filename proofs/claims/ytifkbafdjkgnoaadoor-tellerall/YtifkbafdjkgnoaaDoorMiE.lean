/-
  Package mirror's Tell.
-/
import Derived.Test.YtifkbafdjkgnoaaDoorMiB
import Derived.Test.YtifkbafdjkgnoaaDoorMiC
import Derived.Test.YtifkbafdjkgnoaaDoorMiD
import Derived.Deep.DeepCutAuto
import Derived.Deep.CutRange
import Derived.Deep.CutBlock
namespace Go.Proofs.YtifkbafdjkgnoaaDoor
open Go.RowKit

/-- the two sentinels that package mirror names. -/
structure Se2 (w : World) (s : Nat → Addr) : Prop where
  c1 : w.cell? ⟨0, 0, none⟩ = some (.iface 95 (.pointer (some (s 1))))
  c9 : w.cell? ⟨3, 0, none⟩ = some (.iface 95 (.pointer (some (s 9))))
theorem Se2.below {w w' : World} {s : Nat → Addr} (S : Se2 w s) (hb : Below w.heap.size w w') : Se2 w' s := ⟨tk hb S.c1, tk hb S.c9⟩
theorem Se2.chg {w w' : World} {s : Nat → Addr} {b : Nat} (S : Se2 w s) (hb : Chg b w w') (h1 : 0 ≠ b) (h2 : 3 ≠ b) : Se2 w' s := ⟨hb.keeps h1 S.c1, hb.keeps h2 S.c9⟩
theorem takeL_take (T : Tb) (l : List Tc) (j : Nat) (x : Tc) (h : l[j]? = some x) : takeL T (l.take (j + 1)) = takeT (takeL T (l.take j)) x := by
  unfold takeL
  rw [List.take_add_one, h]
  simp
set_option maxRecDepth 100000 in
set_option maxHeartbeats 4000000 in
theorem tell_bad (b : Nat) (life : Int) (l : List Tc) (p : Option Addr) (cap : Nat) (s : Nat → Addr) (w : World) (S : Se2 w s) (R : TcR w p l) (hl : l.length ≤ 100000)
    (hE : life < 1 ∨ 8 < l.length ∨ (l.any fun x => !okS x) = true) :
    Calls Tryd.prog 14 #[.pointer (some ⟨b, 0, none⟩), .int .i64 life, .slice p l.length cap] w fun e w' => e = .returned (terr s 2) ∧ Below w.heap.size w w' := by
  have HR : Hid (TcR w p l) := R
  have HE : Hid (life < 1 ∨ 8 < l.length ∨ (l.any fun x => !okS x) = true) := hE
  have HS : Hid (Se2 w s) := S
  have s1 := S.c1
  clear R S hE
  go_enter Tryd.func14, Tryd.ntmps14
  by_cases h1 : life < 1
  · go_wp2_with fail
    go_ret
    exact ⟨rfl, Below.refl _ _⟩
  by_cases h2 : 8 < l.length
  · have h2' : (8 : Int) < (l.length : Int) := by omega
    go_wp2_with fail
    go_ret
    exact ⟨rfl, Below.refl _ _⟩
  have h2' : ¬ (8 : Int) < (l.length : Int) := by omega
  go_wp2_with fail
  refine (mcontains_any p cap l _ HR.out hl).mono ?_
  have h3 : (l.any fun x => !okS x) = true := by
    rcases HE.out with h | h | h
    · omega
    · omega
    · exact h
  rw [h3]
  rintro e w1 ⟨rfl, hb1⟩
  have B1 : Hid (Below w.heap.size w w1) := hb1
  have s1 := (HS.out.below hb1).c1
  clear hb1 h3
  go_wp2_with fail
  go_ret
  exact ⟨rfl, B1.out⟩
set_option maxRecDepth 100000 in
set_option maxHeartbeats 4000000 in
theorem tell_old (b : Nat) (life old : Int) (T : Tb) (l : List Tc) (p : Option Addr) (cap : Nat) (s : Nat → Addr) (w : World) (S : Se2 w s) (M : Mir w b old T) (R : TcR w p l)
    (h1 : ¬ life < 1) (h2 : ¬ 8 < l.length) (h3 : (l.any fun x => !okS x) = false) (h4 : life < old) :
    Calls Tryd.prog 14 #[.pointer (some ⟨b, 0, none⟩), .int .i64 life, .slice p l.length cap] w fun e w' => e = .returned (terr s 10) ∧ Below w.heap.size w w' := by
  have HR : Hid (TcR w p l) := R
  have HS : Hid (Se2 w s) := S
  have HM : Hid (Mir w b old T) := M
  have H3 : Hid ((l.any fun x => !okS x) = false) := h3
  have hl : l.length ≤ 100000 := by omega
  clear R S M h3
  have h2' : ¬ (8 : Int) < (l.length : Int) := by omega
  go_enter Tryd.func14, Tryd.ntmps14
  go_wp2_with fail
  refine (mcontains_any p cap l _ HR.out hl).mono ?_
  rw [H3.out]
  rintro e w1 ⟨rfl, hb1⟩
  have B1 : Hid (Below w.heap.size w w1) := hb1
  have s9 := (HS.out.below hb1).c9
  have m0 := (HM.out.below hb1).life
  clear hb1
  go_wp2_with fail
  go_ret
  exact ⟨rfl, B1.out⟩
set_option maxRecDepth 100000 in
set_option maxHeartbeats 4000000 in
theorem tell_ok (b : Nat) (life old : Int) (T : Tb) (l : List Tc) (p : Option Addr) (cap : Nat) (w : World) (M : Mir w b old T) (R : TcR w p l) (hp : ∀ g o, p = some ⟨g, o, none⟩ → g ≠ b)
    (h1 : ¬ life < 1) (h2 : ¬ 8 < l.length) (h3 : (l.any fun x => !okS x) = false) (h4 : ¬ life < old) :
    Calls Tryd.prog 14 #[.pointer (some ⟨b, 0, none⟩), .int .i64 life, .slice p l.length cap] w fun e w' => e = .returned .nilIface ∧ Mir w' b life (takeL (if old < life then newT else T) l) ∧ Chg b w w' := by
  have HR : Hid (TcR w p l) := R
  have HM : Hid (Mir w b old T) := M
  have H3 : Hid ((l.any fun x => !okS x) = false) := h3
  have HP : Hid (∀ g o, p = some ⟨g, o, none⟩ → g ≠ b) := hp
  have hl : l.length ≤ 100000 := by omega
  clear R M h3 hp
  obtain ⟨U, hU⟩ : ∃ U, U = if old < life then newT else T := ⟨_, rfl⟩
  have HU : Hid (U = if old < life then newT else T) := hU
  rw [← hU]
  clear hU
  have h2' : ¬ (8 : Int) < (l.length : Int) := by omega
  go_enter Tryd.func14, Tryd.ntmps14
  go_wp2_with fail
  refine (mcontains_any p cap l _ HR.out hl).mono ?_
  rw [H3.out]
  rintro e w1 ⟨rfl, hb1⟩
  have B1 : Hid (Below w.heap.size w w1) := hb1
  have M1 : Hid (Mir w1 b old T) := HM.out.below hb1
  have m0 := M1.out.life
  clear hb1
  go_upto_if 33 with fail
  go_cut [34, 35, 36, 37, 38, 39, 40, 41] (fun _ _ _ _ _ _ _ _ wx => Mir wx b life U ∧ Chg b w wx)
  case first =>
    by_cases h5 : old < life
    · have HN : Hid (U = newT) := by show _ = _; rw [HU.out, if_pos h5]
      go_wp2_with fail
      refine (blank_any _).mono ?_
      rintro e w2 ⟨rfl, hb2⟩
      have M2 : Hid (Mir w2 b old T) := M1.out.below hb2
      have B2 : Hid (Below w.heap.size w w2) := t2 B1.out hb2
      clear hb2 m0
      have m0 := M2.out.life
      have fz := M2.out.fr 0
      have hst := mir_store (w := w2.setCell ⟨b, 0, none⟩ (.int .i64 life)) (b := b) (life := life) newT (M2.out.putLife life) (tabArr_low _ _) (tabArr_size _ _)
      go_wp2_with (refine wpList_store_at rfl 60 _ _ rfl _ _ _ rfl rfl hst ?_)
      go_meet
      case rel =>
        refine ⟨?_, (((Chg.of B2.out).trans (Chg.set b 0 _ _)).trans (chg_setRow _ _ _))⟩
        rw [HN.out]
        exact setRow_mir newT (M2.out.putLife life)
    · have HN : Hid (U = T) := by show _ = _; rw [HU.out, if_neg h5]
      have HL : Hid (old = life) := by show _ = _; omega
      go_wp2_with fail
      go_meet
      case rel =>
        refine ⟨?_, Chg.of B1.out⟩
        rw [HN.out, ← HL.out]
        exact M1.out
  case rest =>
    obtain ⟨hm, hc⟩ := hcut
    have M2 : Hid (Mir wc b life U) := hm
    have C2 : Hid (Chg b w wc) := hc
    clear hm hc m0
    go_wp2_with fail
    go_loopw [8, 44] (fun _ t wr => ∃ j : Nat, j ≤ l.length ∧ t = .int .i64 j ∧ Mir wr b life (takeL U (l.take j)) ∧ Chg b w wr) (fun _ t _ => l.length - (intOf t).toNat)
    case atStart => exact ⟨0, Nat.zero_le _, rfl, M2.out, C2.out⟩
    case round =>
      obtain ⟨j, hj, rfl, hm, hc⟩ := hrel
      have M3 : Hid (Mir wr b life (takeL U (l.take j))) := hm
      have C3 : Hid (Chg b w wr) := hc
      clear hm hc
      by_cases hlt : j < l.length
      · have hr : l[j]? = some l[j] := List.getElem?_eq_getElem hlt
        obtain ⟨y, hy⟩ : ∃ y, y = l[j] := ⟨_, rfl⟩
        rw [← hy] at hr
        have HY : Hid (l[j]? = some y) := hr
        have HK : Hid (okS y = true) := by
          show _ = _
          have h := List.any_eq_false.1 H3.out y (List.mem_of_getElem? hr)
          cases hd : okS y
          · rw [hd] at h; simp at h
          · rfl
        clear hy
        obtain ⟨g, o, rfl, hc⟩ := HR.out j y hr
        have hc := hc.chg C3.out (HP.out g o rfl)
        have c0 := hc.c0
        have c1 := hc.c1
        have c2 := hc.c2
        have c3 := hc.c3
        have c4 := hc.c4
        have c5 := hc.c5
        have c6 := hc.c6
        have c7 := hc.c7
        have c8 := hc.c8
        have c9 := hc.c9
        clear hr hc
        go_wp2_with fail
        refine (take_any b life _ y _ (M3.out.below (aB _ _)) HK.out).mono ?_
        rintro e w4 ⟨rfl, hm4, hc4⟩
        have M4 : Hid (Mir w4 b life (takeL U (l.take (j + 1)))) := by
          show Mir _ _ _ _
          rw [takeL_take U l j y HY.out]
          exact hm4
        have C4 : Hid (Chg b w w4) := (C3.out.then (aB _ _)).trans hc4
        clear hm4 hc4 c0 c1 c2 c3 c4 c5 c6 c7 c8 c9
        go_wp2_with fail
        go_roundw
        case rel => exact ⟨j + 1, by omega, by go_num, M4.out, C4.out⟩
        case measure => simp [intOf]; omega
      · obtain rfl : j = l.length := by omega
        go_wp2_with fail
        go_ret
        refine ⟨rfl, ?_, C3.out⟩
        have := M3.out
        rw [List.take_length] at this
        exact this
/-- what Tell makes, whatever is told. -/
theorem tell_any (b : Nat) (life old : Int) (T : Tb) (l : List Tc) (p : Option Addr) (cap : Nat) (s : Nat → Addr) (w : World) (S : Se2 w s) (M : Mir w b old T) (R : TcR w p l) (hp : ∀ g o, p = some ⟨g, o, none⟩ → g ≠ b) (hl : l.length ≤ 100000) :
    Calls Tryd.prog 14 #[.pointer (some ⟨b, 0, none⟩), .int .i64 life, .slice p l.length cap] w fun e w' => e = .returned (terr s (tellE old life l)) ∧ Mir w' b (tellLife old life l) (tellT old life T l) ∧ Chg b w w' := by
  by_cases h1 : life < 1 ∨ 8 < l.length ∨ (l.any fun x => !okS x) = true
  · have hE : tellE old life l = 2 := by unfold tellE; rw [if_pos h1]
    refine (tell_bad b life l p cap s w S R hl h1).mono ?_
    rintro e w' ⟨rfl, hb⟩
    unfold tellLife tellT
    rw [hE]
    exact ⟨rfl, M.below hb, Chg.of hb⟩
  · have a1 : ¬ life < 1 := fun h => h1 (.inl h)
    have a2 : ¬ 8 < l.length := fun h => h1 (.inr (.inl h))
    have a3 : (l.any fun x => !okS x) = false := by
      cases h : l.any fun x => !okS x
      · rfl
      · exact (h1 (.inr (.inr h))).elim
    by_cases h4 : life < old
    · have hE : tellE old life l = 10 := by unfold tellE; rw [if_neg h1, if_pos h4]
      refine (tell_old b life old T l p cap s w S M R a1 a2 a3 h4).mono ?_
      rintro e w' ⟨rfl, hb⟩
      unfold tellLife tellT
      rw [hE]
      exact ⟨rfl, M.below hb, Chg.of hb⟩
    · have hE : tellE old life l = 0 := by unfold tellE; rw [if_neg h1, if_neg h4]
      refine (tell_ok b life old T l p cap w M R hp a1 a2 a3 h4).mono ?_
      rintro e w' ⟨rfl, hm, hc⟩
      unfold tellLife tellT
      rw [hE]
      exact ⟨rfl, hm, hc⟩
end Go.Proofs.YtifkbafdjkgnoaaDoor
