/-
  Package table's isFlow, isSlot, and the functions that Find, Back and freeSlot hand in.
-/
import Derived.Test.YtifkbafdjkgnoaaDoorTbA
namespace Go.Proofs.YtifkbafdjkgnoaaDoor
open Go.RowKit

theorem isFlow_any (c : Ce) (w : World) : Calls Tryd.prog 48 #[flowV c] w fun e w' => e = .returned (.bool (c.pr != 0)) ∧ Below w.heap.size w w' := by
  unfold flowV
  go_enter Tryd.func48, Tryd.ntmps48
  go_wp2_with fail
  go_ret
  exact ⟨rfl, (Below.refl _ _).alloc (Nat.le_refl _) _⟩
theorem isSlot_any (k : Int) (w : World) : Calls Tryd.prog 51 #[.int .i64 k] w fun e w' => e = .returned (.bool (decide (0 ≤ k) && decide (k < 32))) ∧ w' = w := by
  go_enter Tryd.func51, Tryd.ntmps51
  go_wp2_with fail
  all_goals go_ret
  all_goals refine ⟨?_, rfl⟩
  all_goals first | (simp_all; done) | (simp_all; omega)
/-- what the three functions have captured. -/
structure FindC (w : World) (X : Nat) (pr ia ip fa fp : Int) : Prop where
  c0 : w.cell? ⟨X, 0, none⟩ = some (.int .i64 pr)
  c1 : w.cell? ⟨X + 1, 0, none⟩ = some (.int .i64 ia)
  c2 : w.cell? ⟨X + 1, 1, none⟩ = some (.int .i64 ip)
  c3 : w.cell? ⟨X + 2, 0, none⟩ = some (.int .i64 fa)
  c4 : w.cell? ⟨X + 2, 1, none⟩ = some (.int .i64 fp)
structure BackC (w : World) (X : Nat) (pr po fa fp : Int) : Prop where
  c0 : w.cell? ⟨X, 0, none⟩ = some (.int .i64 pr)
  c1 : w.cell? ⟨X + 1, 0, none⟩ = some (.int .i64 po)
  c3 : w.cell? ⟨X + 2, 0, none⟩ = some (.int .i64 fa)
  c4 : w.cell? ⟨X + 2, 1, none⟩ = some (.int .i64 fp)
theorem FindC.below {w w' : World} {X : Nat} {pr ia ip fa fp : Int} (h : FindC w X pr ia ip fa fp) (hb : Below w.heap.size w w') : FindC w' X pr ia ip fa fp := ⟨tk hb h.c0, tk hb h.c1, tk hb h.c2, tk hb h.c3, tk hb h.c4⟩
theorem BackC.below {w w' : World} {X : Nat} {pr po fa fp : Int} (h : BackC w X pr po fa fp) (hb : Below w.heap.size w w') : BackC w' X pr po fa fp := ⟨tk hb h.c0, tk hb h.c1, tk hb h.c3, tk hb h.c4⟩
abbrev findFn (X : Nat) : Value := .func (.func 47) #[] #[.pointer (some ⟨X, 0, none⟩), .pointer (some ⟨X + 1, 0, none⟩), .pointer (some ⟨X + 2, 0, none⟩)]
abbrev backFn (X : Nat) : Value := .func (.func 55) #[] #[.pointer (some ⟨X, 0, none⟩), .pointer (some ⟨X + 1, 0, none⟩), .pointer (some ⟨X + 2, 0, none⟩)]
abbrev freeFn : Value := .func (.func 49) #[] #[]
set_option maxRecDepth 100000 in
set_option maxHeartbeats 2000000 in
theorem findF_any (X : Nat) (pr ia ip fa fp : Int) (c : Ce) (w : World) (C : FindC w X pr ia ip fa fp) :
    Calls Tryd.prog 47 #[flowV c, .pointer (some ⟨X, 0, none⟩), .pointer (some ⟨X + 1, 0, none⟩), .pointer (some ⟨X + 2, 0, none⟩)] w fun e w' => e = .returned (.bool (findQ pr ia ip fa fp c)) ∧ Below w.heap.size w w' := by
  have HC : Hid (FindC w X pr ia ip fa fp) := C
  clear C
  have hF : flowV c = .agg #[.int .i64 c.pr, .int .i64 c.ia, .int .i64 c.ip, .int .i64 c.fa, .int .i64 c.fp, .int .i64 c.po, .int .i64 c.st, .int .i64 c.un] := rfl
  rw [hF]
  clear hF
  go_enter Tryd.func47, Tryd.ntmps47
  go_wp2_with fail
  refine (isFlow_any c _).mono ?_
  rintro e w1 ⟨rfl, hb1⟩
  have B0 : Hid (Below w.heap.size w (w.alloc (.cells #[.int .i64 c.pr, .int .i64 c.ia, .int .i64 c.ip, .int .i64 c.fa, .int .i64 c.fp, .int .i64 c.po, .int .i64 c.st, .int .i64 c.un] 36))) := (Below.refl _ _).alloc (Nat.le_refl _) _
  have B1 : Hid (Below w.heap.size w w1) := t2 B0.out hb1
  have f0 : w1.cell? ⟨w.heap.size, 0, none⟩ = some (.int .i64 c.pr) := tk hb1 ((nw _ _ _ _).trans rfl)
  have f1 : w1.cell? ⟨w.heap.size, 1, none⟩ = some (.int .i64 c.ia) := tk hb1 ((nw _ _ _ _).trans rfl)
  have f2 : w1.cell? ⟨w.heap.size, 2, none⟩ = some (.int .i64 c.ip) := tk hb1 ((nw _ _ _ _).trans rfl)
  have f3 : w1.cell? ⟨w.heap.size, 3, none⟩ = some (.int .i64 c.fa) := tk hb1 ((nw _ _ _ _).trans rfl)
  have f4 : w1.cell? ⟨w.heap.size, 4, none⟩ = some (.int .i64 c.fp) := tk hb1 ((nw _ _ _ _).trans rfl)
  clear hb1 B0
  have C1 := HC.out.below B1.out
  have c0 := C1.c0
  have c1 := C1.c1
  have c2 := C1.c2
  have c3 := C1.c3
  have c4 := C1.c4
  clear C1
  have e1 : ∀ w : World, (binOp .eql 34 (.agg #[.int .i64 c.ia, .int .i64 c.ip]) (.agg #[.int .i64 ia, .int .i64 ip])).run Tryd.prog w = .ok (.bool (c.ia == ia && c.ip == ip)) w := eql_end _ _ _ _
  have e2 : ∀ w : World, (binOp .eql 34 (.agg #[.int .i64 c.fa, .int .i64 c.fp]) (.agg #[.int .i64 fa, .int .i64 fp])).run Tryd.prog w = .ok (.bool (c.fa == fa && c.fp == fp)) w := eql_end _ _ _ _
  have HQ : Hid (findQ pr ia ip fa fp c = ((c.pr != 0) && ((c.pr == pr) && ((c.ia == ia && c.ip == ip) && (c.fa == fa && c.fp == fp))))) := rfl
  generalize (c.ia == ia && c.ip == ip) = b3 at e1 HQ
  generalize (c.fa == fa && c.fp == fp) = b4 at e2 HQ
  rcases h1 : (c.pr != 0) with _ | _
  · rw [h1] at HQ
    go_wp2_with fail
    go_ret
    exact ⟨by rw [HQ.out]; rfl, B1.out⟩
  rcases h2 : (c.pr == pr) with _ | _
  · rw [h1, h2] at HQ
    go_wp2_with fail
    go_ret
    exact ⟨by rw [HQ.out]; rfl, B1.out⟩
  rw [h1, h2] at HQ
  cases b3
  · go_wp2_with fail
    go_ret
    exact ⟨by rw [HQ.out]; rfl, B1.out⟩
  · go_wp2_with fail
    go_ret
    exact ⟨by rw [HQ.out]; rfl, B1.out⟩
set_option maxRecDepth 100000 in
set_option maxHeartbeats 2000000 in
theorem backF_any (X : Nat) (pr po fa fp : Int) (c : Ce) (w : World) (C : BackC w X pr po fa fp) :
    Calls Tryd.prog 55 #[flowV c, .pointer (some ⟨X, 0, none⟩), .pointer (some ⟨X + 1, 0, none⟩), .pointer (some ⟨X + 2, 0, none⟩)] w fun e w' => e = .returned (.bool (backQ pr po fa fp c)) ∧ Below w.heap.size w w' := by
  have HC : Hid (BackC w X pr po fa fp) := C
  clear C
  have hF : flowV c = .agg #[.int .i64 c.pr, .int .i64 c.ia, .int .i64 c.ip, .int .i64 c.fa, .int .i64 c.fp, .int .i64 c.po, .int .i64 c.st, .int .i64 c.un] := rfl
  rw [hF]
  clear hF
  go_enter Tryd.func55, Tryd.ntmps55
  go_wp2_with fail
  refine (isFlow_any c _).mono ?_
  rintro e w1 ⟨rfl, hb1⟩
  have B0 : Hid (Below w.heap.size w (w.alloc (.cells #[.int .i64 c.pr, .int .i64 c.ia, .int .i64 c.ip, .int .i64 c.fa, .int .i64 c.fp, .int .i64 c.po, .int .i64 c.st, .int .i64 c.un] 36))) := (Below.refl _ _).alloc (Nat.le_refl _) _
  have B1 : Hid (Below w.heap.size w w1) := t2 B0.out hb1
  have f0 : w1.cell? ⟨w.heap.size, 0, none⟩ = some (.int .i64 c.pr) := tk hb1 ((nw _ _ _ _).trans rfl)
  have f5 : w1.cell? ⟨w.heap.size, 5, none⟩ = some (.int .i64 c.po) := tk hb1 ((nw _ _ _ _).trans rfl)
  have f3 : w1.cell? ⟨w.heap.size, 3, none⟩ = some (.int .i64 c.fa) := tk hb1 ((nw _ _ _ _).trans rfl)
  have f4 : w1.cell? ⟨w.heap.size, 4, none⟩ = some (.int .i64 c.fp) := tk hb1 ((nw _ _ _ _).trans rfl)
  clear hb1 B0
  have C1 := HC.out.below B1.out
  have c0 := C1.c0
  have c1 := C1.c1
  have c3 := C1.c3
  have c4 := C1.c4
  clear C1
  have e2 : ∀ w : World, (binOp .eql 34 (.agg #[.int .i64 c.fa, .int .i64 c.fp]) (.agg #[.int .i64 fa, .int .i64 fp])).run Tryd.prog w = .ok (.bool (c.fa == fa && c.fp == fp)) w := eql_end _ _ _ _
  have HQ : Hid (backQ pr po fa fp c = ((c.pr != 0) && ((c.pr == pr) && ((c.po == po) && (c.fa == fa && c.fp == fp))))) := rfl
  generalize (c.fa == fa && c.fp == fp) = b4 at e2 HQ
  rcases h1 : (c.pr != 0) with _ | _
  · rw [h1] at HQ
    go_wp2_with fail
    go_ret
    exact ⟨by rw [HQ.out]; rfl, B1.out⟩
  rcases h2 : (c.pr == pr) with _ | _
  · rw [h1, h2] at HQ
    go_wp2_with fail
    go_ret
    exact ⟨by rw [HQ.out]; rfl, B1.out⟩
  rcases h3 : (c.po == po) with _ | _
  · rw [h1, h2, h3] at HQ
    go_wp2_with fail
    go_ret
    exact ⟨by rw [HQ.out]; rfl, B1.out⟩
  · rw [h1, h2, h3] at HQ
    go_wp2_with fail
    go_ret
    exact ⟨by rw [HQ.out]; rfl, B1.out⟩
theorem freeF_any (c : Ce) (w : World) :
    Calls Tryd.prog 49 #[flowV c] w fun e w' => e = .returned (.bool (freeQ c)) ∧ Below w.heap.size w w' := by
  have hF : flowV c = .agg #[.int .i64 c.pr, .int .i64 c.ia, .int .i64 c.ip, .int .i64 c.fa, .int .i64 c.fp, .int .i64 c.po, .int .i64 c.st, .int .i64 c.un] := rfl
  rw [hF]
  clear hF
  go_enter Tryd.func49, Tryd.ntmps49
  go_wp2_with fail
  refine (isFlow_any c _).mono ?_
  rintro e w1 ⟨rfl, hb1⟩
  have B1 : Hid (Below w.heap.size w w1) := t2 ((Below.refl _ _).alloc (Nat.le_refl _) _) hb1
  clear hb1
  go_wp2_with fail
  go_ret
  refine ⟨?_, B1.out⟩
  unfold freeQ
  show Ending.returned (.bool (!(!(c.pr == 0)))) = _
  rw [Bool.not_not]
/-- how a slot that was found is answered. -/
def fstV : Option Nat → Value
  | some k => .tuple #[.int .i64 k, .bool true]
  | none => .tuple #[.int .i64 0, .bool false]
set_option maxRecDepth 100000 in
set_option maxHeartbeats 2000000 in
theorem first_find (b : Nat) (low : Int) (T : Tb) (X : Nat) (pr ia ip fa fp : Int) (w : World) (t : Tab w b low T) (C : FindC w X pr ia ip fa fp) :
    Calls Tryd.prog 46 #[.pointer (some ⟨b, 0, none⟩), findFn X] w fun e w' => e = .returned (fstV (fst T (findQ pr ia ip fa fp))) ∧ Below w.heap.size w w' := by
  have HC : Hid (FindC w X pr ia ip fa fp) := C
  clear C
  have HT : Hid (Tab w b low T) := t
  have hld := arr_load t
  clear t
  go_enter Tryd.func46, Tryd.ntmps46
  go_wp2_with (refine wpList_load_at rfl 60 _ rfl _ _ rfl hld ?_)
  clear hld
  go_loopw [12] (fun t wr => ∃ j : Nat, j ≤ 32 ∧ t = .int .i64 j ∧ (∀ i, i < j → (findQ pr ia ip fa fp) (T i) = false) ∧ Below w.heap.size w wr) (fun t _ => 32 - (intOf t).toNat)
  case atStart => exact ⟨0, by omega, rfl, fun i hi => by omega, Below.refl _ _⟩
  case round =>
    obtain ⟨j, hj, rfl, hno, hbr⟩ := hrel
    have HN : Hid (∀ i, i < j → (findQ pr ia ip fa fp) (T i) = false) := hno
    have HB : Hid (Below w.heap.size w wr) := hbr
    clear hno hbr
    by_cases hlt : j < 32
    · obtain ⟨c, hc⟩ : ∃ c, c = T j := ⟨_, rfl⟩
      have HCj : Hid (c = T j) := hc
      have hix : (Instr.index 60 (.agg (slotsArr T)) (.int .i64 j)).run Tryd.prog wr = .ok (.agg #[.int .i64 j, .int .i64 c.ve, .int .i64 c.pr, .int .i64 c.ia, .int .i64 c.ip, .int .i64 c.fa, .int .i64 c.fp, .int .i64 c.po, .int .i64 c.st, .int .i64 c.un]) wr := by
        rw [hc]; exact arr_index T j hlt wr
      clear hc
      go_wp2_with fail
      refine (findF_any X pr ia ip fa fp c _ (HC.out.below (HB.out.alloc HB.out.size _))).mono ?_
      rintro e w2 ⟨rfl, hb2⟩
      have HB2 : Hid (Below w.heap.size w w2) := t2 (HB.out.alloc HB.out.size _) hb2
      clear hb2 hix
      rcases hq : (findQ pr ia ip fa fp) c with _ | _
      · have HN2 : Hid (∀ i, i < j + 1 → (findQ pr ia ip fa fp) (T i) = false) := fun i hi => by
          by_cases e : i = j
          · rw [e, ← HCj.out]; exact hq
          · exact HN.out i (by omega)
        clear hq
        go_wp2_with fail
        go_roundw
        case rel => exact ⟨j + 1, by omega, by go_num, HN2.out, HB2.out⟩
        case measure => simp [intOf]; omega
      · have HF : Hid (fst T (findQ pr ia ip fa fp) = some j) := fst_some.2 ⟨hlt, by rw [← HCj.out]; exact hq, HN.out⟩
        clear hq
        go_wp2_with fail
        go_ret2
        refine ⟨?_, HB2.out⟩
        rw [HF.out]
        rfl
    · obtain rfl : j = 32 := by omega
      go_wp2_with fail
      go_ret2
      refine ⟨?_, HB.out⟩
      rw [fst_none.2 HN.out]
      rfl
set_option maxRecDepth 100000 in
set_option maxHeartbeats 2000000 in
theorem first_back (b : Nat) (low : Int) (T : Tb) (X : Nat) (pr po fa fp : Int) (w : World) (t : Tab w b low T) (C : BackC w X pr po fa fp) :
    Calls Tryd.prog 46 #[.pointer (some ⟨b, 0, none⟩), backFn X] w fun e w' => e = .returned (fstV (fst T (backQ pr po fa fp))) ∧ Below w.heap.size w w' := by
  have HC : Hid (BackC w X pr po fa fp) := C
  clear C
  have HT : Hid (Tab w b low T) := t
  have hld := arr_load t
  clear t
  go_enter Tryd.func46, Tryd.ntmps46
  go_wp2_with (refine wpList_load_at rfl 60 _ rfl _ _ rfl hld ?_)
  clear hld
  go_loopw [12] (fun t wr => ∃ j : Nat, j ≤ 32 ∧ t = .int .i64 j ∧ (∀ i, i < j → (backQ pr po fa fp) (T i) = false) ∧ Below w.heap.size w wr) (fun t _ => 32 - (intOf t).toNat)
  case atStart => exact ⟨0, by omega, rfl, fun i hi => by omega, Below.refl _ _⟩
  case round =>
    obtain ⟨j, hj, rfl, hno, hbr⟩ := hrel
    have HN : Hid (∀ i, i < j → (backQ pr po fa fp) (T i) = false) := hno
    have HB : Hid (Below w.heap.size w wr) := hbr
    clear hno hbr
    by_cases hlt : j < 32
    · obtain ⟨c, hc⟩ : ∃ c, c = T j := ⟨_, rfl⟩
      have HCj : Hid (c = T j) := hc
      have hix : (Instr.index 60 (.agg (slotsArr T)) (.int .i64 j)).run Tryd.prog wr = .ok (.agg #[.int .i64 j, .int .i64 c.ve, .int .i64 c.pr, .int .i64 c.ia, .int .i64 c.ip, .int .i64 c.fa, .int .i64 c.fp, .int .i64 c.po, .int .i64 c.st, .int .i64 c.un]) wr := by
        rw [hc]; exact arr_index T j hlt wr
      clear hc
      go_wp2_with fail
      refine (backF_any X pr po fa fp c _ (HC.out.below (HB.out.alloc HB.out.size _))).mono ?_
      rintro e w2 ⟨rfl, hb2⟩
      have HB2 : Hid (Below w.heap.size w w2) := t2 (HB.out.alloc HB.out.size _) hb2
      clear hb2 hix
      rcases hq : (backQ pr po fa fp) c with _ | _
      · have HN2 : Hid (∀ i, i < j + 1 → (backQ pr po fa fp) (T i) = false) := fun i hi => by
          by_cases e : i = j
          · rw [e, ← HCj.out]; exact hq
          · exact HN.out i (by omega)
        clear hq
        go_wp2_with fail
        go_roundw
        case rel => exact ⟨j + 1, by omega, by go_num, HN2.out, HB2.out⟩
        case measure => simp [intOf]; omega
      · have HF : Hid (fst T (backQ pr po fa fp) = some j) := fst_some.2 ⟨hlt, by rw [← HCj.out]; exact hq, HN.out⟩
        clear hq
        go_wp2_with fail
        go_ret2
        refine ⟨?_, HB2.out⟩
        rw [HF.out]
        rfl
    · obtain rfl : j = 32 := by omega
      go_wp2_with fail
      go_ret2
      refine ⟨?_, HB.out⟩
      rw [fst_none.2 HN.out]
      rfl
set_option maxRecDepth 100000 in
set_option maxHeartbeats 2000000 in
theorem first_free (b : Nat) (low : Int) (T : Tb) (w : World) (t : Tab w b low T) :
    Calls Tryd.prog 46 #[.pointer (some ⟨b, 0, none⟩), freeFn] w fun e w' => e = .returned (fstV (fst T freeQ)) ∧ Below w.heap.size w w' := by
  have HT : Hid (Tab w b low T) := t
  have hld := arr_load t
  clear t
  go_enter Tryd.func46, Tryd.ntmps46
  go_wp2_with (refine wpList_load_at rfl 60 _ rfl _ _ rfl hld ?_)
  clear hld
  go_loopw [12] (fun t wr => ∃ j : Nat, j ≤ 32 ∧ t = .int .i64 j ∧ (∀ i, i < j → freeQ (T i) = false) ∧ Below w.heap.size w wr) (fun t _ => 32 - (intOf t).toNat)
  case atStart => exact ⟨0, by omega, rfl, fun i hi => by omega, Below.refl _ _⟩
  case round =>
    obtain ⟨j, hj, rfl, hno, hbr⟩ := hrel
    have HN : Hid (∀ i, i < j → freeQ (T i) = false) := hno
    have HB : Hid (Below w.heap.size w wr) := hbr
    clear hno hbr
    by_cases hlt : j < 32
    · obtain ⟨c, hc⟩ : ∃ c, c = T j := ⟨_, rfl⟩
      have HCj : Hid (c = T j) := hc
      have hix : (Instr.index 60 (.agg (slotsArr T)) (.int .i64 j)).run Tryd.prog wr = .ok (.agg #[.int .i64 j, .int .i64 c.ve, .int .i64 c.pr, .int .i64 c.ia, .int .i64 c.ip, .int .i64 c.fa, .int .i64 c.fp, .int .i64 c.po, .int .i64 c.st, .int .i64 c.un]) wr := by
        rw [hc]; exact arr_index T j hlt wr
      clear hc
      go_wp2_with fail
      refine (freeF_any c _).mono ?_
      rintro e w2 ⟨rfl, hb2⟩
      have HB2 : Hid (Below w.heap.size w w2) := t2 (HB.out.alloc HB.out.size _) hb2
      clear hb2 hix
      rcases hq : freeQ c with _ | _
      · have HN2 : Hid (∀ i, i < j + 1 → freeQ (T i) = false) := fun i hi => by
          by_cases e : i = j
          · rw [e, ← HCj.out]; exact hq
          · exact HN.out i (by omega)
        clear hq
        go_wp2_with fail
        go_roundw
        case rel => exact ⟨j + 1, by omega, by go_num, HN2.out, HB2.out⟩
        case measure => simp [intOf]; omega
      · have HF : Hid (fst T freeQ = some j) := fst_some.2 ⟨hlt, by rw [← HCj.out]; exact hq, HN.out⟩
        clear hq
        go_wp2_with fail
        go_ret2
        refine ⟨?_, HB2.out⟩
        rw [HF.out]
        rfl
    · obtain rfl : j = 32 := by omega
      go_wp2_with fail
      go_ret2
      refine ⟨?_, HB.out⟩
      rw [fst_none.2 HN.out]
      rfl
end Go.Proofs.YtifkbafdjkgnoaaDoor
