/-
  Package teller's fill.
-/
import Derived.Test.YthmnmdikpccenacDoorTeD
namespace Go.Proofs.YthmnmdikpccenacDoor
open Go.RowKit Go.Maps

/-- the cursor in memory. -/
def curOf (w : World) (X : Nat) : Nat := match w.cell? ⟨X, 2, none⟩ with | some (.int _ x) => x.toNat | _ => 0
def lenV : Value → Nat
  | .slice _ n _ => n
  | _ => 0
/-- how far a batch is from full. -/
def fillM (X c : Nat) (v : Value) (w : World) : Nat := if 8 ≤ lenV v then 0 else 33 - (curOf w X + 32 - c) % 32
theorem fillM_at {w : World} {X b M n : Nat} {D : To} {c j l cap : Nat} {p : Option Addr} (H : Tel w X b M n D ((c + j) % 32)) (hc : c < 32) (hj : j < 32) (hl : l < 8) : fillM X c (.slice p l cap) w = 33 - j := by
  unfold fillM curOf lenV
  rw [H.c2]
  simp only
  rw [if_neg (by omega)]
  have : (Int.toNat (((c + j) % 32 : Nat) : Int)) = (c + j) % 32 := Int.toNat_natCast _
  rw [this]
  omega
theorem fillM_full {w : World} {X c l cap : Nat} {p : Option Addr} (hl : 8 ≤ l) : fillM X c (.slice p l cap) w = 0 := by
  unfold fillM lenV
  simp only
  rw [if_pos hl]
theorem wk_short {B : List Nat} {c j : Nat} (h : ∀ i, i < j → (wk B c i).length < 8) (hj : (wk B c j).length < 8) : j < 32 := by
  rcases Nat.lt_trichotomy j 32 with h1 | h1 | h1
  · exact h1
  · subst h1; have := wk_full B c; omega
  · have := h 32 h1; have := wk_full B c; omega
/-- how fill stands behind j slots. -/
structure Fi (w wr : World) (X b M n Z Z2 : Nat) (low : Int) (T : Tb) (D : To) (B : List Nat) (c j : Nat) : Prop where
  r : RowsB wr Z T (wk B c j)
  s : ∀ i, i < j → (wk B c i).length < 8
  h : Tel wr X b M n D ((c + j) % 32)
  k : CellsB wr Z2 T
  g : Chg2 X Z w wr
theorem Fi.below {w wr wr' : World} {X b M n Z Z2 : Nat} {low : Int} {T : Tb} {D : To} {B : List Nat} {c j : Nat} (f : Fi w wr X b M n Z Z2 low T D B c j) (hb : Below wr.heap.size wr wr') : Fi w wr' X b M n Z Z2 low T D B c j :=
  ⟨f.r.below hb, f.s, f.h.below hb, f.k.below hb, f.g.then hb⟩
theorem CellsB.chg {w w' : World} {Z g : Nat} {T : Tb} (h : CellsB w Z T) (hb : Chg g w w') (hn : Z ≠ g) : CellsB w' Z T := by
  unfold CellsB; rw [hb.block Z h.lt hn]; exact h
/-- the same in the middle of a round. -/
structure Fi1 (w wr : World) (X b M n Z Z2 V : Nat) (T : Tb) (D : To) (L : List Nat) (cu : Nat) : Prop where
  r : RowsB wr Z T L
  h : Tel wr X b M n D ((cu + 1) % 32)
  k : CellsB wr Z2 T
  g : Chg2 X Z w wr
  a : TcB10 wr V T cu
theorem Fi1.below {w wr wr' : World} {X b M n Z Z2 V : Nat} {T : Tb} {D : To} {L : List Nat} {cu : Nat} (f : Fi1 w wr X b M n Z Z2 V T D L cu) (hb : Below wr.heap.size wr wr') : Fi1 w wr' X b M n Z Z2 V T D L cu :=
  ⟨f.r.below hb, f.h.below hb, f.k.below hb, f.g.then hb, f.a.below hb⟩
theorem fi1_of {w wr : World} {X b M n Z Z2 : Nat} {T : Tb} {D : To} {L : List Nat} {cu c' : Nat} (r : RowsB wr Z T L) (h : Tel wr X b M n D c') (k : CellsB wr Z2 T) (g : Chg2 X Z w wr) (h1 : X ≠ Z) (h2 : Z2 ≠ X) (_ : M ≠ Z2) :
    Fi1 w ((wr.setCell ⟨X, 2, none⟩ (.int .i64 (((cu + 1) % 32 : Nat) : Int))).alloc (.cells #[.int .i64 cu, .int .i64 (T cu).ve, .int .i64 (T cu).pr, .int .i64 (T cu).ia, .int .i64 (T cu).ip, .int .i64 (T cu).fa, .int .i64 (T cu).fp, .int .i64 (T cu).po, .int .i64 (T cu).st, .int .i64 (T cu).un] 49)) X b M n Z Z2 wr.heap.size T D L cu := by
  have A := tcB10_new (wr.setCell ⟨X, 2, none⟩ (.int .i64 (((cu + 1) % 32 : Nat) : Int))) T cu
  rw [show (wr.setCell ⟨X, 2, none⟩ (.int .i64 (((cu + 1) % 32 : Nat) : Int))).heap.size = wr.heap.size from by simp [World.setCell]] at A
  exact ⟨(r.chg (Chg.set X 2 wr _) (fun e => h1 e.symm)).below (aB _ _), (h.cur (c' := (cu + 1) % 32) (by omega)).below (aB _ _), (k.chg (Chg.set X 2 wr _) h2).below (aB _ _), (g.on (Chg.set X 2 wr _) (.inl rfl)).then (aB _ _), A⟩
theorem fill_meas {wr w' : World} {X b M n : Nat} {D : To} {c j l l' : Nat} {p q : Option Addr} {cap cap' : Nat} (H : Tel wr X b M n D ((c + j) % 32)) (H' : Tel w' X b M n D ((c + (j + 1)) % 32)) (hc : c < 32) (hj : j < 32) (hl : l < 8) {l2 : Nat} (e : l2 = l') (hs : l2 < 8 → j + 1 < 32) : fillM X c (.slice q l' cap') w' < fillM X c (.slice p l cap) wr := by
  rw [fillM_at H hc hj hl]
  by_cases h8 : l' < 8
  · rw [fillM_at H' hc (hs (by omega)) h8]; omega
  · rw [fillM_full (by omega)]; omega
set_option maxRecDepth 100000 in
set_option maxHeartbeats 4000000 in
theorem fill_any (X b M n c Z : Nat) (low : Int) (T : Tb) (D : To) (B : List Nat) (w : World) (H : Tel w X b M n D c) (t : Tab w b low T) (R : RowsB w Z T B) (hX : X ≠ Z) (hM : M ≠ Z) :
    Calls Tryd.prog 59 #[.pointer (some ⟨X, 0, none⟩), .slice (some ⟨Z, 0, none⟩) B.length 32] w fun e w' => ∃ j, Full B c j ∧ e = .returned (.slice (some ⟨Z, 0, none⟩) (wk B c j).length 32) ∧ RowsB w' Z T (wk B c j) ∧ Tel w' X b M n D ((c + j) % 32) ∧ Chg2 X Z w w' := by
  have HH : Hid (Tel w X b M n D c) := H
  have HT : Hid (Tab w b low T) := t
  have HR : Hid (RowsB w Z T B) := R
  have HN : Hid (X ≠ Z ∧ M ≠ Z) := ⟨hX, hM⟩
  have hc32 := H.lt
  have c0 := H.c0
  clear H t R hX hM
  go_enter Tryd.func59, Tryd.ntmps59
  go_wp2_with fail
  refine (cells_any b low T w HT.out).mono ?_
  rintro e w1 ⟨rfl, hcb, hb1⟩
  have F0 : Hid (Fi w w1 X b M n Z w.heap.size low T D B c 0) := ⟨HR.out.below hb1, fun i hi => by omega, by rw [Nat.add_zero, Nat.mod_eq_of_lt hc32]; exact HH.out.below hb1, hcb, Chg2.of hb1⟩
  have HZ : Hid (X < w.heap.size ∧ Z < w.heap.size ∧ M < w.heap.size) := ⟨tlt HH.out.c0, HR.out.lt, HH.out.m.lt⟩
  obtain ⟨Z2, hZ2⟩ : ∃ Z2, Z2 = w.heap.size := ⟨_, rfl⟩
  have HZ2 : Hid (Z2 = w.heap.size) := hZ2
  rw [← hZ2] at F0 ⊢
  clear hcb hb1 c0 hZ2
  go_wp2_with fail
  go_loopw [1] (fun v wr => ∃ j : Nat, v = .slice (some ⟨Z, 0, none⟩) (wk B c j).length 32 ∧ Fi w wr X b M n Z Z2 low T D B c j) (fun v wr => fillM X c v wr)
  case atStart => exact ⟨0, rfl, F0.out⟩
  case round =>
    obtain ⟨j, rfl, hf⟩ := hrel
    have HF : Hid (Fi w wr X b M n Z Z2 low T D B c j) := hf
    clear hf F0
    by_cases hlt : (wk B c j).length < 8
    · have hj32 : j < 32 := wk_short HF.out.s hlt
      have hl8 : ((wk B c j).length : Int) < 8 := by omega
      have hM0 : Hid (fillM X c (.slice (some ⟨Z, 0, none⟩) (wk B c j).length 32) wr = 33 - j) := fillM_at HF.out.h hc32 hj32 hlt
      obtain ⟨cu, hcu⟩ : ∃ cu, cu = (c + j) % 32 := ⟨_, rfl⟩
      have HCU : Hid (cu = (c + j) % 32) := hcu
      have hcl : cu < 32 := by omega
      have c2 := HF.out.h.c2
      have f2 := HF.out.h.f2
      rw [← hcu] at c2
      have hcx := tlt c2
      simp only at hcx
      have i0 : (0 : Int) ≤ (cu : Int) := by omega
      have i1 : (cu : Int) < 32 := by omega
      have a0 := HF.out.k.at' (k := 0) hcl (by omega)
      have a1 := HF.out.k.at' (k := 1) hcl (by omega)
      have a2 := HF.out.k.at' (k := 2) hcl (by omega)
      have a3 := HF.out.k.at' (k := 3) hcl (by omega)
      have a4 := HF.out.k.at' (k := 4) hcl (by omega)
      have a5 := HF.out.k.at' (k := 5) hcl (by omega)
      have a6 := HF.out.k.at' (k := 6) hcl (by omega)
      have a7 := HF.out.k.at' (k := 7) hcl (by omega)
      have a8 := HF.out.k.at' (k := 8) hcl (by omega)
      have a9 := HF.out.k.at' (k := 9) hcl (by omega)
      simp only [Ce.get, Nat.add_zero] at a0 a1 a2 a3 a4 a5 a6 a7 a8 a9
      clear hcu
      go_wp2_with fail
      rw [show ((cu : Int) + 1) % 32 = (((cu + 1) % 32 : Nat) : Int) from by omega]
      clear a0 a1 a2 a3 a4 a5 a6 a7 a8 a9 c2 f2
      have F1 : Hid (Fi1 w ((wr.setCell ⟨X, 2, none⟩ (.int .i64 (((cu + 1) % 32 : Nat) : Int))).alloc (.cells #[.int .i64 cu, .int .i64 (T cu).ve, .int .i64 (T cu).pr, .int .i64 (T cu).ia, .int .i64 (T cu).ip, .int .i64 (T cu).fa, .int .i64 (T cu).fp, .int .i64 (T cu).po, .int .i64 (T cu).st, .int .i64 (T cu).un] 49)) X b M n Z Z2 wr.heap.size T D (wk B c j) cu) := by
        have hn := HN.out
        have hz := HZ.out
        have hz2 := HZ2.out
        exact fi1_of HF.out.r HF.out.h HF.out.k HF.out.g hn.1 (by omega) (by omega)
      generalize (wr.setCell ⟨X, 2, none⟩ (.int .i64 (((cu + 1) % 32 : Nat) : Int))).alloc (.cells #[.int .i64 cu, .int .i64 (T cu).ve, .int .i64 (T cu).pr, .int .i64 (T cu).ia, .int .i64 (T cu).ip, .int .i64 (T cu).fa, .int .i64 (T cu).fp, .int .i64 (T cu).po, .int .i64 (T cu).st, .int .i64 (T cu).un] 49) = W0 at *
      generalize wr.heap.size = V at *
      refine (fcontains_any V Z T (wk B c j) cu W0 F1.out.a.c0 F1.out.r (by omega)).mono ?_
      rintro e w2 ⟨rfl, hb2⟩
      have F2 : Hid (Fi1 w w2 X b M n Z Z2 V T D (wk B c j) cu) := F1.out.below hb2
      clear hb2 F1
      by_cases hm : cu ∈ wk B c j
      · have HW : Hid (wk B c (j + 1) = wk B c j) := wk_in (by rw [← HCU.out]; exact hm)
        have hd : decide (cu ∈ wk B c j) = true := decide_eq_true hm
        rw [hd]
        clear hd hm
        have F3 : Hid (Fi w w2 X b M n Z Z2 low T D B c (j + 1)) := by
          have hs := HF.out.s
          refine ⟨by rw [HW.out]; exact F2.out.r, fun i hi => ?_, ?_, F2.out.k, F2.out.g⟩
          · by_cases e : i = j
            · rw [e]; exact hlt
            · exact hs i (by omega)
          · have := F2.out.h
            rw [show (c + (j + 1)) % 32 = (cu + 1) % 32 from by rw [HCU.out]; omega]
            exact this
        clear F2
        go_wp2_with fail
        go_roundw
        case rel => exact ⟨j + 1, by rw [HW.out], F3.out⟩
        case measure => exact fill_meas HF.out.h F3.out.h hc32 hj32 hlt (by rw [HW.out]) (wk_short F3.out.s)
      · have HW : Hid (wk B c (j + 1) = wk B c j ++ [cu]) := by show _ = _; rw [wk_out (by rw [← HCU.out]; exact hm), ← HCU.out]
        have hd : decide (cu ∈ wk B c j) = false := decide_eq_false hm
        rw [hd]
        clear hd hm
        have v0 := F2.out.a.c0
        have v1 := F2.out.a.c1
        have v2 := F2.out.a.c2
        have v3 := F2.out.a.c3
        have v4 := F2.out.a.c4
        have v5 := F2.out.a.c5
        have v6 := F2.out.a.c6
        have v7 := F2.out.a.c7
        have v8 := F2.out.a.c8
        have v9 := F2.out.a.c9
        have BA : Hid (Below w2.heap.size w2 (w2.alloc (.cells #[.int .i64 cu, .int .i64 (T cu).ve, .int .i64 (T cu).pr, .int .i64 (T cu).ia, .int .i64 (T cu).ip, .int .i64 (T cu).fa, .int .i64 (T cu).fp, .int .i64 (T cu).po, .int .i64 (T cu).st, .int .i64 (T cu).un] 49))) := aB _ _
        obtain ⟨w4, happ, hr4, hc4⟩ := rows_append (F2.out.r.below BA.out) ⟨w2.heap.size, 0, none⟩ cu 1 44 (fun q u hu => by rw [tadd, Nat.zero_add, nw]; simpa [slC] using hu) (by omega)
        have F3 : Hid (Fi w w4 X b M n Z Z2 low T D B c (j + 1)) := by
          have hs := HF.out.s
          have hn := HN.out
          have hz := HZ.out
          have hz2 := HZ2.out
          refine ⟨by rw [HW.out]; exact hr4, fun i hi => ?_, ?_, (F2.out.k.below BA.out).chg hc4 (by omega), (F2.out.g.then BA.out).on hc4 (.inr (.inl rfl))⟩
          · by_cases e : i = j
            · rw [e]; exact hlt
            · exact hs i (by omega)
          · have := (F2.out.h.below BA.out).chg hc4 hn.1 hn.2
            rw [show (c + (j + 1)) % 32 = (cu + 1) % 32 from by rw [HCU.out]; omega]
            exact this
        clear F2 BA hr4 hc4
        go_wp2_with (at_builtin; refine wpList_append_eq rfl _ _ 44 rfl _ _ _ _ rfl rfl happ ?_)
        go_roundw
        case rel => exact ⟨j + 1, by rw [HW.out, List.length_append]; rfl, F3.out⟩
        case measure => exact fill_meas HF.out.h F3.out.h hc32 hj32 hlt (by rw [HW.out, List.length_append]; rfl) (wk_short F3.out.s)
    · have hlt' : ¬ ((wk B c j).length : Int) < 8 := by omega
      have HU : Hid (Full B c j) := ⟨HF.out.s, by omega⟩
      go_wp2_with fail
      go_ret
      exact ⟨j, HU.out, rfl, HF.out.r, HF.out.h, HF.out.g⟩
end Go.Proofs.YthmnmdikpccenacDoor
