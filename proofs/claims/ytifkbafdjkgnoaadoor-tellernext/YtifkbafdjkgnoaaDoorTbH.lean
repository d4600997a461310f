/-
  Package table's Add.
-/
import Derived.Test.YtifkbafdjkgnoaaDoorTbF
namespace Go.Proofs.YtifkbafdjkgnoaaDoor
open Go.RowKit

structure EnB (w : World) (Z : Nat) (ia ip fa fp : Int) : Prop where
  c0 : w.cell? ⟨Z, 0, none⟩ = some (.int .i64 ia)
  c1 : w.cell? ⟨Z, 1, none⟩ = some (.int .i64 ip)
  c2 : w.cell? ⟨Z + 1, 0, none⟩ = some (.int .i64 fa)
  c3 : w.cell? ⟨Z + 1, 1, none⟩ = some (.int .i64 fp)
theorem EnB.below {w w' : World} {Z : Nat} {ia ip fa fp : Int} (h : EnB w Z ia ip fa fp) (hb : Below w.heap.size w w') : EnB w' Z ia ip fa fp := ⟨tk hb h.c0, tk hb h.c1, tk hb h.c2, tk hb h.c3⟩
theorem enB_new (w : World) (ia ip fa fp : Int) : EnB ((w.alloc (.cells #[.int .i64 ia, .int .i64 ip] 34)).alloc (.cells #[.int .i64 fa, .int .i64 fp] 34)) w.heap.size ia ip fa fp := by
  have s1 : (w.alloc (.cells #[.int .i64 ia, .int .i64 ip] 34)).heap.size = w.heap.size + 1 := by simp
  have n1 := nw (w.alloc (.cells #[.int .i64 ia, .int .i64 ip] 34)) #[.int .i64 fa, .int .i64 fp] 34
  rw [s1] at n1
  exact ⟨tk (aB _ _) ((nw w _ _ 0).trans rfl), tk (aB _ _) ((nw w _ _ 1).trans rfl), (n1 0).trans rfl, (n1 1).trans rfl⟩
set_option maxRecDepth 100000 in
set_option maxHeartbeats 4000000 in
theorem add_an2 (b : Nat) (low : Int) (T : Tb) (pr ia ip fa fp st un : Int) (n : Nat) (s : Nat → Addr) (w : World) (S : Se45 w s) (t : Tab w b low T) (hl0 : 0 ≤ low) (hl1 : low ≤ 100000) (hv : Vers T n) (hn : n ≤ 1000000) :
    Calls Tryd.prog 10 #[.pointer (some ⟨b, 0, none⟩), .int .i64 pr, .agg #[.int .i64 ia, .int .i64 ip], .agg #[.int .i64 fa, .int .i64 fp], .int .i64 st, .int .i64 un] w fun e w' => e = .returned (.tuple #[.int .i64 ((addT T low pr ia ip fa fp st un).1 : Nat), terr s (addT T low pr ia ip fa fp st un).2.1]) ∧ Tab w' b low (addT T low pr ia ip fa fp st un).2.2 ∧ Chg b w w' := by
  have HS : Hid (Se45 w s) := S
  have HT : Hid (Tab w b low T) := t
  have HV : Hid (Vers T n) := hv
  clear t S hv
  go_enter Tryd.func10, Tryd.ntmps10
  go_wp2_with fail
  have B0 : Hid (Below w.heap.size w ((w.alloc (.cells #[.int .i64 ia, .int .i64 ip] 34)).alloc (.cells #[.int .i64 fa, .int .i64 fp] 34))) := t2 (aB _ _) (aB _ _)
  have F0 : Hid (EnB ((w.alloc (.cells #[.int .i64 ia, .int .i64 ip] 34)).alloc (.cells #[.int .i64 fa, .int .i64 fp] 34)) w.heap.size ia ip fa fp) := enB_new w ia ip fa fp
  generalize (w.alloc (.cells #[.int .i64 ia, .int .i64 ip] 34)).alloc (.cells #[.int .i64 fa, .int .i64 fp] 34) = w0 at *
  generalize hZ : w.heap.size = Z at F0 ⊢
  refine (find_any b low T pr ia ip fa fp w0 (HT.out.below B0.out)).mono ?_
  rintro e w1 ⟨rfl, hb1⟩
  have B1 : Hid (Below w.heap.size w w1) := t2 B0.out hb1
  have F1 : Hid (EnB w1 Z ia ip fa fp) := F0.out.below hb1
  clear hb1 B0 F0
  have S1 := HS.out.below B1.out
  have s4 := S1.c4
  clear S1
  rcases hf : fst T (findQ pr ia ip fa fp) with _ | k0
  · have HF : Hid (fst T (findQ pr ia ip fa fp) = none) := hf
    simp only [Option.isSome_none, Option.getD_none]
    clear hf s4
    go_wp2_with fail
    refine (free_any b low T w1 (HT.out.below B1.out)).mono ?_
    rintro e w2 ⟨rfl, hb2⟩
    have B2 : Hid (Below w.heap.size w w2) := t2 B1.out hb2
    have F2 : Hid (EnB w2 Z ia ip fa fp) := F1.out.below hb2
    clear hb2 B1 F1
    have S1 := HS.out.below B2.out
    have s5 := S1.c5
    clear S1
    rcases hf : fst T freeQ with _ | k
    · have HP : Hid (addT T low pr ia ip fa fp st un = (0, 6, T)) := by show _ = _; unfold addT; rw [HF.out, hf]
      simp only [Option.isSome_none, Option.getD_none]
      clear hf
      go_wp2_with fail
      go_region
      go_wp2_with fail
      go_ret2
      rw [HP.out]
      exact ⟨rfl, (HT.out.below B2.out).drew, (Chg.of B2.out).then (Below.refl _ _).drew⟩
    · have HG : Hid (fst T freeQ = some k) := hf
      have hk := fst_lt hf
      simp only [Option.isSome_some, Option.getD_some]
      clear hf s5
      have f2 := F2.out.c2
      have f3 := F2.out.c3
      go_wp2_with fail
      clear f2 f3
      refine (port_any b low T pr fa fp w2 (HT.out.below B2.out) hl0 hl1).mono ?_
      rintro e w3 ⟨⟨x, rfl, hx⟩, hb3⟩
      have HX : Hid (∀ p, freeP T low pr fa fp = some p → x = low + p) := hx
      have B3 : Hid (Below w.heap.size w w3) := t2 B2.out hb3
      have F3 : Hid (EnB w3 Z ia ip fa fp) := F2.out.below hb3
      clear hb3 B2 F2 hx
      have S1 := HS.out.below B3.out
      have s5 := S1.c5
      clear S1
      rcases hf : freeP T low pr fa fp with _ | p
      · have HP : Hid (addT T low pr ia ip fa fp st un = (0, 6, T)) := by show _ = _; unfold addT; rw [HF.out, HG.out, hf]
        simp only [Option.isSome_none]
        clear hf
        go_wp2_with fail
        go_region
        go_wp2_with fail
        go_ret2
        rw [HP.out]
        exact ⟨rfl, (HT.out.below B3.out).drew, (Chg.of B3.out).then (Below.refl _ _).drew⟩
      · have HP : Hid (addT T low pr ia ip fa fp st un = (k, 0, layT T k pr ia ip fa fp (low + p) st un)) := by show _ = _; unfold addT; rw [HF.out, HG.out, hf]
        obtain rfl := HX.out p hf
        simp only [Option.isSome_some]
        clear hf s5 HX
        have f0 := F3.out.c0
        have f1 := F3.out.c1
        have f2 := F3.out.c2
        have f3 := F3.out.c3
        go_wp2_with fail
        clear f0 f1 f2 f3
        have hve := HV.out k hk
        refine (lay_any b low T k ⟨0, pr, ia, ip, fa, fp, low + p, st, un⟩ w3 (HT.out.below B3.out) hk hve.1 (by omega)).mono ?_
        rintro e w4 ⟨rfl, t4, c4⟩
        have T4 : Hid (Tab w4 b low (layT T k pr ia ip fa fp (low + p) st un)) := t4
        have C4 : Hid (Chg b w w4) := (Chg.of B3.out).trans c4
        clear t4 c4 hve
        go_wp2_with fail
        go_ret2
        rw [HP.out]
        exact ⟨rfl, T4.out, C4.out⟩
  · have HP : Hid (addT T low pr ia ip fa fp st un = (0, 5, T)) := by show _ = _; unfold addT; rw [hf]
    simp only [Option.isSome_some, Option.getD_some]
    clear hf
    go_wp2_with fail
    go_region
    go_wp2_with fail
    go_ret2
    rw [HP.out]
    exact ⟨rfl, (HT.out.below B1.out).drew, (Chg.of B1.out).then (Below.refl _ _).drew⟩
theorem add_any (b : Nat) (low : Int) (T : Tb) (pr ia ip fa fp st un : Int) (n : Nat) (s : Nat → Addr) (w : World) (S : Se4 w s) (t : Tab w b low T) (hl0 : 0 ≤ low) (hl1 : low ≤ 100000) (hv : Vers T n) (hn : n ≤ 1000000) :
    Calls Tryd.prog 10 #[.pointer (some ⟨b, 0, none⟩), .int .i64 pr, .agg #[.int .i64 ia, .int .i64 ip], .agg #[.int .i64 fa, .int .i64 fp], .int .i64 st, .int .i64 un] w fun e w' => e = .returned (.tuple #[.int .i64 ((addT T low pr ia ip fa fp st un).1 : Nat), terr s (addT T low pr ia ip fa fp st un).2.1]) ∧ Tab w' b low (addT T low pr ia ip fa fp st un).2.2 ∧ Chg b w w' :=
  add_an2 b low T pr ia ip fa fp st un n s w S.s45 t hl0 hl1 hv hn
end Go.Proofs.YtifkbafdjkgnoaaDoor
