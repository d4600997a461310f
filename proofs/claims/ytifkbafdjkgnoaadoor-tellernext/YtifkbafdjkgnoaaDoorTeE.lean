/-
  Package teller's fill.
-/
import Derived.Test.YtifkbafdjkgnoaaDoorTeD
namespace Go.Proofs.YtifkbafdjkgnoaaDoor
open Go.RowKit Go.Maps

/-- the cursor in memory. -/
def curOf (w : World) (X : Nat) : Nat := match w.cell? ⟨X, 2, none⟩ with | some (.int _ x) => x.toNat | _ => 0
def lenV : Value → Nat
  | .slice _ n _ => n
  | _ => 0
/-- how far a batch is from full. -/
def fillM (X c : Nat) (v : Value) (w : World) : Nat := if 8 ≤ lenV v then 0 else 33 - (curOf w X + 32 - c) % 32
theorem fillM_at {w : World} {X b M n : Nat} {D : To} {c j l cap : Nat} {p : Option Addr} (H : Tel w X b M n D ((c + j) % 32)) (hc : c < 32) (hj : j < 32) (hl : l < 8) : fillM X c (.slice p l cap) w = 33 - j := by
  unfold fillM curOf lenV
  rw [H.c2]
  simp only
  rw [if_neg (by omega)]
  have : (Int.toNat (((c + j) % 32 : Nat) : Int)) = (c + j) % 32 := Int.toNat_natCast _
  rw [this]
  omega
theorem fillM_full {w : World} {X c l cap : Nat} {p : Option Addr} (hl : 8 ≤ l) : fillM X c (.slice p l cap) w = 0 := by
  unfold fillM lenV
  simp only
  rw [if_pos hl]
theorem wk_short {B : List Nat} {c j : Nat} (h : ∀ i, i < j → (wk B c i).length < 8) (hj : (wk B c j).length < 8) : j < 32 := by
  rcases Nat.lt_trichotomy j 32 with h1 | h1 | h1
  · exact h1
  · subst h1; have := wk_full B c; omega
  · have := h 32 h1; have := wk_full B c; omega
/-- how fill stands behind j slots. -/
structure Fi (w wr : World) (X b M n Z : Nat) (low : Int) (T : Tb) (D : To) (B : List Nat) (c j : Nat) : Prop where
  r : RowsB wr Z T (wk B c j)
  s : ∀ i, i < j → (wk B c i).length < 8
  h : Tel wr X b M n D ((c + j) % 32)
  k : Tab wr b low T
  g : Chg2 X Z w wr
theorem Fi.below {w wr wr' : World} {X b M n Z : Nat} {low : Int} {T : Tb} {D : To} {B : List Nat} {c j : Nat} (f : Fi w wr X b M n Z low T D B c j) (hb : Below wr.heap.size wr wr') : Fi w wr' X b M n Z low T D B c j :=
  ⟨f.r.below hb, f.s, f.h.below hb, f.k.below hb, f.g.then hb⟩
/-- the same in the middle of a round. -/
structure Fi1 (w wr : World) (X b M n Z V : Nat) (low : Int) (T : Tb) (D : To) (L : List Nat) (cu : Nat) : Prop where
  r : RowsB wr Z T L
  h : Tel wr X b M n D ((cu + 1) % 32)
  k : Tab wr b low T
  g : Chg2 X Z w wr
  a : TcB10 wr V T cu
theorem Fi1.below {w wr wr' : World} {X b M n Z V : Nat} {low : Int} {T : Tb} {D : To} {L : List Nat} {cu : Nat} (f : Fi1 w wr X b M n Z V low T D L cu) (hb : Below wr.heap.size wr wr') : Fi1 w wr' X b M n Z V low T D L cu :=
  ⟨f.r.below hb, f.h.below hb, f.k.below hb, f.g.then hb, f.a.below hb⟩
theorem Tel.neTab {w : World} {X b M n : Nat} {D : To} {c : Nat} {low : Int} {T : Tb} (h : Tel w X b M n D c) (t : Tab w b low T) : b ≠ X := fun e => by
  have h1 := h.c0
  have h2 := t.low
  rw [e] at h2
  rw [h1] at h2
  cases h2
theorem fi1_of {w wr : World} {X b M n Z : Nat} {low : Int} {T : Tb} {D : To} {L : List Nat} {cu c' : Nat} (r : RowsB wr Z T L) (h : Tel wr X b M n D c') (k : Tab wr b low T) (g : Chg2 X Z w wr) (h1 : X ≠ Z) :
    Fi1 w ((wr.setCell ⟨X, 2, none⟩ (.int .i64 (((cu + 1) % 32 : Nat) : Int))).alloc (.cells #[.int .i64 cu, .int .i64 (T cu).ve, .int .i64 (T cu).pr, .int .i64 (T cu).ia, .int .i64 (T cu).ip, .int .i64 (T cu).fa, .int .i64 (T cu).fp, .int .i64 (T cu).po, .int .i64 (T cu).st, .int .i64 (T cu).un] 59)) X b M n Z wr.heap.size low T D L cu := by
  have A := tcB10_new (wr.setCell ⟨X, 2, none⟩ (.int .i64 (((cu + 1) % 32 : Nat) : Int))) T cu
  rw [show (wr.setCell ⟨X, 2, none⟩ (.int .i64 (((cu + 1) % 32 : Nat) : Int))).heap.size = wr.heap.size from by simp [World.setCell]] at A
  exact ⟨(r.chg (Chg.set X 2 wr _) (fun e => h1 e.symm)).below (aB _ _), (h.cur (c' := (cu + 1) % 32) (by omega)).below (aB _ _), (k.chg (Chg.set X 2 wr _) (h.neTab k)).below (aB _ _), (g.on (Chg.set X 2 wr _) (.inl rfl)).then (aB _ _), A⟩
theorem fill_meas {wr w' : World} {X b M n : Nat} {D : To} {c j l l' : Nat} {p q : Option Addr} {cap cap' : Nat} (H : Tel wr X b M n D ((c + j) % 32)) (H' : Tel w' X b M n D ((c + (j + 1)) % 32)) (hc : c < 32) (hj : j < 32) (hl : l < 8) {l2 : Nat} (e : l2 = l') (hs : l2 < 8 → j + 1 < 32) : fillM X c (.slice q l' cap') w' < fillM X c (.slice p l cap) wr := by
  rw [fillM_at H hc hj hl]
  by_cases h8 : l' < 8
  · rw [fillM_at H' hc (hs (by omega)) h8]; omega
  · rw [fillM_full (by omega)]; omega
set_option maxRecDepth 100000 in
set_option maxHeartbeats 4000000 in
theorem fill_any (X b M n c Z : Nat) (low : Int) (T : Tb) (D : To) (B : List Nat) (w : World) (H : Tel w X b M n D c) (t : Tab w b low T) (R : RowsB w Z T B) (hX : X ≠ Z) (hM : M ≠ Z) (hbZ : b ≠ Z) :
    Calls Tryd.prog 34 #[.pointer (some ⟨X, 0, none⟩), .slice (some ⟨Z, 0, none⟩) B.length 8] w fun e w' => ∃ j, Full B c j ∧ e = .returned (.slice (some ⟨Z, 0, none⟩) (wk B c j).length 8) ∧ RowsB w' Z T (wk B c j) ∧ Tel w' X b M n D ((c + j) % 32) ∧ Chg2 X Z w w' := by
  have HH : Hid (Tel w X b M n D c) := H
  have HT : Hid (Tab w b low T) := t
  have HR : Hid (RowsB w Z T B) := R
  have HN : Hid (X ≠ Z ∧ M ≠ Z ∧ b ≠ Z) := ⟨hX, hM, hbZ⟩
  have hc32 := H.lt
  have F0 : Hid (Fi w w X b M n Z low T D B c 0) := ⟨R, fun i hi => by omega, by rw [Nat.add_zero, Nat.mod_eq_of_lt hc32]; exact H, t, Chg2.of (Below.refl _ _)⟩
  clear H t R hX hM hbZ HH HT HR
  go_enter Tryd.func34, Tryd.ntmps34
  go_wp2_with fail
  go_loopw [1] (fun v wr => ∃ j : Nat, v = .slice (some ⟨Z, 0, none⟩) (wk B c j).length 8 ∧ Fi w wr X b M n Z low T D B c j) (fun v wr => fillM X c v wr)
  case atStart => exact ⟨0, rfl, F0.out⟩
  case round =>
    obtain ⟨j, rfl, hf⟩ := hrel
    have HF : Hid (Fi w wr X b M n Z low T D B c j) := hf
    clear hf F0
    by_cases hlt : (wk B c j).length < 8
    · have hj32 : j < 32 := wk_short HF.out.s hlt
      have hl8 : ((wk B c j).length : Int) < 8 := by omega
      have hM0 : Hid (fillM X c (.slice (some ⟨Z, 0, none⟩) (wk B c j).length 8) wr = 33 - j) := fillM_at HF.out.h hc32 hj32 hlt
      obtain ⟨cu, hcu⟩ : ∃ cu, cu = (c + j) % 32 := ⟨_, rfl⟩
      have HCU : Hid (cu = (c + j) % 32) := hcu
      have hcl : cu < 32 := by omega
      have c2 := HF.out.h.c2
      have f2 := HF.out.h.f2
      rw [← hcu] at c2
      have hcx := tlt c2
      simp only at hcx
      have i0 : (0 : Int) ≤ (cu : Int) := by omega
      have i1 : (cu : Int) < 32 := by omega
      clear hcu
      go_wp2_with fail
      refine (tcell_any X b low T cu wr HF.out.h.c0 HF.out.k hcl).mono ?_
      rintro e w1 ⟨rfl, hb1⟩
      have FB : Hid (Fi w w1 X b M n Z low T D B c j) := HF.out.below hb1
      have d2 := FB.out.h.c2
      have e2 := FB.out.h.f2
      rw [← HCU.out] at d2
      have hcx1 := tlt d2
      simp only at hcx1
      clear hb1 c2 f2
      unfold cellV
      go_wp2_with fail
      rw [show ((cu : Int) + 1) % 32 = (((cu + 1) % 32 : Nat) : Int) from by omega]
      have F1 : Hid (Fi1 w ((w1.setCell ⟨X, 2, none⟩ (.int .i64 (((cu + 1) % 32 : Nat) : Int))).alloc (.cells #[.int .i64 cu, .int .i64 (T cu).ve, .int .i64 (T cu).pr, .int .i64 (T cu).ia, .int .i64 (T cu).ip, .int .i64 (T cu).fa, .int .i64 (T cu).fp, .int .i64 (T cu).po, .int .i64 (T cu).st, .int .i64 (T cu).un] 59)) X b M n Z w1.heap.size low T D (wk B c j) cu) := fi1_of FB.out.r FB.out.h FB.out.k FB.out.g HN.out.1
      clear d2 e2 FB
      generalize (w1.setCell ⟨X, 2, none⟩ (.int .i64 (((cu + 1) % 32 : Nat) : Int))).alloc (.cells #[.int .i64 cu, .int .i64 (T cu).ve, .int .i64 (T cu).pr, .int .i64 (T cu).ia, .int .i64 (T cu).ip, .int .i64 (T cu).fa, .int .i64 (T cu).fp, .int .i64 (T cu).po, .int .i64 (T cu).st, .int .i64 (T cu).un] 59) = W0 at *
      generalize w1.heap.size = V at *
      refine (fcontains_any V Z T (wk B c j) cu W0 F1.out.a.c0 F1.out.r (by omega)).mono ?_
      rintro e w2 ⟨rfl, hb2⟩
      have F2 : Hid (Fi1 w w2 X b M n Z V low T D (wk B c j) cu) := F1.out.below hb2
      clear hb2 F1
      by_cases hm : cu ∈ wk B c j
      · have HW : Hid (wk B c (j + 1) = wk B c j) := wk_in (by rw [← HCU.out]; exact hm)
        have hd : decide (cu ∈ wk B c j) = true := decide_eq_true hm
        rw [hd]
        clear hd hm
        have F3 : Hid (Fi w w2 X b M n Z low T D B c (j + 1)) := by
          have hs := HF.out.s
          refine ⟨by rw [HW.out]; exact F2.out.r, fun i hi => ?_, ?_, F2.out.k, F2.out.g⟩
          · by_cases e : i = j
            · rw [e]; exact hlt
            · exact hs i (by omega)
          · have := F2.out.h
            rw [show (c + (j + 1)) % 32 = (cu + 1) % 32 from by rw [HCU.out]; omega]
            exact this
        clear F2
        go_wp2_with fail
        go_roundw
        case rel => exact ⟨j + 1, by rw [HW.out], F3.out⟩
        case measure => exact fill_meas HF.out.h F3.out.h hc32 hj32 hlt (by rw [HW.out]) (wk_short F3.out.s)
      · have HW : Hid (wk B c (j + 1) = wk B c j ++ [cu]) := by show _ = _; rw [wk_out (by rw [← HCU.out]; exact hm), ← HCU.out]
        have hd : decide (cu ∈ wk B c j) = false := decide_eq_false hm
        rw [hd]
        clear hd hm
        have v0 := F2.out.a.c0
        have v1 := F2.out.a.c1
        have v2 := F2.out.a.c2
        have v3 := F2.out.a.c3
        have v4 := F2.out.a.c4
        have v5 := F2.out.a.c5
        have v6 := F2.out.a.c6
        have v7 := F2.out.a.c7
        have v8 := F2.out.a.c8
        have v9 := F2.out.a.c9
        have BA : Hid (Below w2.heap.size w2 (w2.alloc (.cells #[.int .i64 cu, .int .i64 (T cu).ve, .int .i64 (T cu).pr, .int .i64 (T cu).ia, .int .i64 (T cu).ip, .int .i64 (T cu).fa, .int .i64 (T cu).fp, .int .i64 (T cu).po, .int .i64 (T cu).st, .int .i64 (T cu).un] 59))) := aB _ _
        obtain ⟨w4, happ, hr4, hc4⟩ := rows_append (F2.out.r.below BA.out) ⟨w2.heap.size, 0, none⟩ cu 1 43 (fun q u hu => by rw [tadd, Nat.zero_add, nw]; simpa [slC] using hu) (by omega)
        have F3 : Hid (Fi w w4 X b M n Z low T D B c (j + 1)) := by
          have hs := HF.out.s
          have hn := HN.out
          refine ⟨by rw [HW.out]; exact hr4, fun i hi => ?_, ?_, (F2.out.k.below BA.out).chg hc4 hn.2.2, (F2.out.g.then BA.out).on hc4 (.inr (.inl rfl))⟩
          · by_cases e : i = j
            · rw [e]; exact hlt
            · exact hs i (by omega)
          · have := (F2.out.h.below BA.out).chg hc4 hn.1 hn.2.1
            rw [show (c + (j + 1)) % 32 = (cu + 1) % 32 from by rw [HCU.out]; omega]
            exact this
        clear F2 BA hr4 hc4
        go_wp2_with (at_builtin; refine wpList_append_eq rfl _ _ 43 rfl _ _ _ _ rfl rfl happ ?_)
        go_roundw
        case rel => exact ⟨j + 1, by rw [HW.out, List.length_append]; rfl, F3.out⟩
        case measure => exact fill_meas HF.out.h F3.out.h hc32 hj32 hlt (by rw [HW.out, List.length_append]; rfl) (wk_short F3.out.s)
    · have hlt' : ¬ ((wk B c j).length : Int) < 8 := by omega
      have HU : Hid (Full B c j) := ⟨HF.out.s, by omega⟩
      go_wp2_with fail
      go_ret
      exact ⟨j, HU.out, rfl, HF.out.r, HF.out.h, HF.out.g⟩
end Go.Proofs.YtifkbafdjkgnoaaDoor
