/-
  Package table's Set, Put, Add.
-/
import Derived.Test.YthmnmdikpccenacDoorTbF
namespace Go.Proofs.YthmnmdikpccenacDoor
open Go.RowKit


set_option maxRecDepth 100000 in
set_option maxHeartbeats 4000000 in
theorem put_an2 (b : Nat) (low : Int) (T : Tb) (c : Ce) (n : Nat) (s : Nat → Addr) (w : World) (S : Se45 w s) (t : Tab w b low T) (hv : Vers T n) (hn : n ≤ 1000000) :
    Calls Tryd.prog 57 #[.pointer (some ⟨b, 0, none⟩), flowV c] w fun e w' => e = .returned (.tuple #[.int .i64 ((putT T c.pr c.ia c.ip c.fa c.fp c.po c.st c.un).1 : Nat), terr s (putT T c.pr c.ia c.ip c.fa c.fp c.po c.st c.un).2.1]) ∧ Tab w' b low (putT T c.pr c.ia c.ip c.fa c.fp c.po c.st c.un).2.2 ∧ Chg b w w' := by
  have HS : Hid (Se45 w s) := S
  have HT : Hid (Tab w b low T) := t
  have HV : Hid (Vers T n) := hv
  have hF : flowV c = .agg #[.int .i64 c.pr, .int .i64 c.ia, .int .i64 c.ip, .int .i64 c.fa, .int .i64 c.fp, .int .i64 c.po, .int .i64 c.st, .int .i64 c.un] := rfl
  rw [hF]
  clear t S hv hF
  go_enter Tryd.func57, Tryd.ntmps57
  go_wp2_with fail
  have B0 : Hid (Below w.heap.size w (w.alloc (.cells #[.int .i64 c.pr, .int .i64 c.ia, .int .i64 c.ip, .int .i64 c.fa, .int .i64 c.fp, .int .i64 c.po, .int .i64 c.st, .int .i64 c.un] 47))) := aB _ _
  have F0 : Hid (FlB (w.alloc (.cells #[.int .i64 c.pr, .int .i64 c.ia, .int .i64 c.ip, .int .i64 c.fa, .int .i64 c.fp, .int .i64 c.po, .int .i64 c.st, .int .i64 c.un] 47)) w.heap.size c) := flB_new w c
  generalize w.alloc (.cells #[.int .i64 c.pr, .int .i64 c.ia, .int .i64 c.ip, .int .i64 c.fa, .int .i64 c.fp, .int .i64 c.po, .int .i64 c.st, .int .i64 c.un] 47) = w0 at *
  generalize hZ : w.heap.size = Z at F0 ⊢
  refine (find_any b low T c.pr c.ia c.ip c.fa c.fp w0 (HT.out.below B0.out)).mono ?_
  rintro e w1 ⟨rfl, hb1⟩
  have B1 : Hid (Below w.heap.size w w1) := t2 B0.out hb1
  have F1 : Hid (FlB w1 Z c) := F0.out.below hb1
  clear hb1 B0 F0
  have S1 := HS.out.below B1.out
  have s4 := S1.c4
  clear S1
  rcases hf : fst T (findQ c.pr c.ia c.ip c.fa c.fp) with _ | k0
  · have HF : Hid (fst T (findQ c.pr c.ia c.ip c.fa c.fp) = none) := hf
    simp only [Option.isSome_none, Option.getD_none]
    clear hf s4
    have f0 := F1.out.c0
    have f1 := F1.out.c1
    have f2 := F1.out.c2
    have f3 := F1.out.c3
    have f4 := F1.out.c4
    have f5 := F1.out.c5
    have f6 := F1.out.c6
    have f7 := F1.out.c7
    go_wp2_with fail
    clear f0 f1 f2 f3 f4 f5 f6 f7
    refine (back_any b low T c.pr c.po c.fa c.fp w1 (HT.out.below B1.out)).mono ?_
    rintro e w2 ⟨rfl, hb2⟩
    have B2 : Hid (Below w.heap.size w w2) := t2 B1.out hb2
    have F2 : Hid (FlB w2 Z c) := F1.out.below hb2
    clear hb2 B1 F1
    have S1 := HS.out.below B2.out
    have s4 := S1.c4
    clear S1
    rcases hf : fst T (backQ c.pr c.po c.fa c.fp) with _ | k0
    · have HG : Hid (fst T (backQ c.pr c.po c.fa c.fp) = none) := hf
      simp only [Option.isSome_none, Option.getD_none]
      clear hf s4
      go_wp2_with fail
      refine (free_any b low T w2 (HT.out.below B2.out)).mono ?_
      rintro e w3 ⟨rfl, hb3⟩
      have B3 : Hid (Below w.heap.size w w3) := t2 B2.out hb3
      have F3 : Hid (FlB w3 Z c) := F2.out.below hb3
      clear hb3 B2 F2
      have S1 := HS.out.below B3.out
      have s5 := S1.c5
      clear S1
      rcases hf : fst T freeQ with _ | k
      · have HP : Hid (putT T c.pr c.ia c.ip c.fa c.fp c.po c.st c.un = (0, 6, T)) := by show _ = _; unfold putT; rw [HF.out, HG.out, hf]
        simp only [Option.isSome_none, Option.getD_none]
        clear hf
        go_wp2_with fail
        go_region
        go_wp2_with fail
        go_ret2
        rw [HP.out]
        exact ⟨rfl, (HT.out.below B3.out).drew, (Chg.of B3.out).then (Below.refl _ _).drew⟩
      · have HP : Hid (putT T c.pr c.ia c.ip c.fa c.fp c.po c.st c.un = (k, 0, layT T k c.pr c.ia c.ip c.fa c.fp c.po c.st c.un)) := by show _ = _; unfold putT; rw [HF.out, HG.out, hf]
        have hk := fst_lt hf
        simp only [Option.isSome_some, Option.getD_some]
        clear hf s5
        have f0 := F3.out.c0
        have f1 := F3.out.c1
        have f2 := F3.out.c2
        have f3 := F3.out.c3
        have f4 := F3.out.c4
        have f5 := F3.out.c5
        have f6 := F3.out.c6
        have f7 := F3.out.c7
        go_wp2_with fail
        clear f0 f1 f2 f3 f4 f5 f6 f7
        have hve := HV.out k hk
        refine (lay_any b low T k c w3 (HT.out.below B3.out) hk hve.1 (by omega)).mono ?_
        rintro e w4 ⟨rfl, t4, c4⟩
        have T4 : Hid (Tab w4 b low (layT T k c.pr c.ia c.ip c.fa c.fp c.po c.st c.un)) := t4
        have C4 : Hid (Chg b w w4) := (Chg.of B3.out).trans c4
        clear t4 c4 hve
        go_wp2_with fail
        go_ret2
        rw [HP.out]
        exact ⟨rfl, T4.out, C4.out⟩
    · have HP : Hid (putT T c.pr c.ia c.ip c.fa c.fp c.po c.st c.un = (0, 5, T)) := by show _ = _; unfold putT; rw [HF.out, hf]
      simp only [Option.isSome_some, Option.getD_some]
      clear hf
      go_wp2_with fail
      go_region
      go_wp2_with fail
      go_ret2
      rw [HP.out]
      exact ⟨rfl, (HT.out.below B2.out).drew, (Chg.of B2.out).then (Below.refl _ _).drew⟩
  · have HP : Hid (putT T c.pr c.ia c.ip c.fa c.fp c.po c.st c.un = (0, 5, T)) := by show _ = _; unfold putT; rw [hf]
    simp only [Option.isSome_some, Option.getD_some]
    clear hf
    go_wp2_with fail
    go_region
    go_wp2_with fail
    go_ret2
    rw [HP.out]
    exact ⟨rfl, (HT.out.below B1.out).drew, (Chg.of B1.out).then (Below.refl _ _).drew⟩
theorem put_any (b : Nat) (low : Int) (T : Tb) (c : Ce) (n : Nat) (s : Nat → Addr) (w : World) (S : Se4 w s) (t : Tab w b low T) (hv : Vers T n) (hn : n ≤ 1000000) :
    Calls Tryd.prog 57 #[.pointer (some ⟨b, 0, none⟩), flowV c] w fun e w' => e = .returned (.tuple #[.int .i64 ((putT T c.pr c.ia c.ip c.fa c.fp c.po c.st c.un).1 : Nat), terr s (putT T c.pr c.ia c.ip c.fa c.fp c.po c.st c.un).2.1]) ∧ Tab w' b low (putT T c.pr c.ia c.ip c.fa c.fp c.po c.st c.un).2.2 ∧ Chg b w w' :=
  put_an2 b low T c n s w S.s45 t hv hn
end Go.Proofs.YthmnmdikpccenacDoor
