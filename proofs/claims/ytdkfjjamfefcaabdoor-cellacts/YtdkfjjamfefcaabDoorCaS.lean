/-
  Both sides of the law CellActs: the program's bytes and cell, the document's bytes and cell.
-/
import Derived.Test.YtdkfjjamfefcaabDoorCaP
import Derived.Test.YtdkfjjamfefcaabDoorCeK
import Derived.Test.YtdkfjjamfefcaabDoorCeV
import Derived.Test.YtdkfjjamfefcaabDoorCod2
namespace Go.Proofs.YtdkfjjamfefcaabDoor
open Go.RowKit

theorem RS.base {w0 w : World} {n m : Nat} {s : By} {y : Nm} {d : Bool} {lo : Int} (h : RS w0 w n m s y d lo) : RS w w n m s y d lo := ⟨h.r, h.c, h.ne, h.len, Chg2.refl _ _ _⟩
theorem RS.chg2 {w w' : World} {n m b c : Nat} {s : By} {y : Nm} {d : Bool} {lo : Int} (h : RS w w n m s y d lo) (k : Chg2 b c w w') (h1 : n ≠ b) (h2 : n ≠ c) (h3 : m ≠ b) (h4 : m ≠ c) : RS w' w' n m s y d lo := by
  obtain ⟨⟨lv, r1, r2⟩, c, ne, len, x⟩ := h
  exact ⟨⟨lv, r1.chg2 k h1 h2, r2⟩, c.chg2 k h3 h4, ne, len, Chg2.refl _ _ _⟩
theorem frozen_blk {w w' : World} {b : Nat} (h : w'.heap[b]? = w.heap[b]?) (i : Nat) : w'.frozen? ⟨b, i, none⟩ = w.frozen? ⟨b, i, none⟩ := World.frozen?_of_block (w := w) h
theorem Cl.chg2 {w0 w w' : World} {b c n m : Nat} {s : By} {off : Bool} (h : Cl w0 w b c s off) (k : Chg2 n m w w') (h1 : n ≠ b) (h2 : n ≠ c) (h3 : m ≠ b) (h4 : m ≠ c) (hn : w0.heap.size ≤ n) (hm : w0.heap.size ≤ m) : Cl w0 w' b c s off :=
  ⟨⟨by rw [k.block b h.y.lt (fun e => h1 e.symm) (fun e => h3 e.symm)]; exact h.y.1, h.y.2⟩,
   ⟨k.keeps (fun e => h2 e.symm) (fun e => h4 e.symm) h.e.c0, k.keeps (fun e => h2 e.symm) (fun e => h4 e.symm) h.e.c1, by
      rw [frozen_blk (k.block c h.e.lt (fun e => h2 e.symm) (fun e => h4 e.symm)) 1]; exact h.e.f1⟩,
   h.ne, h.hb, h.hc, Chg2.below h.bl k hn hm, h.lf⟩
/-- both sides; they may stand at different bytes. -/
structure Ca (w0 w : World) (b c n m : Nat) (s : By) (off : Bool) (t : By) (y : Nm) (d : Bool) (lo : Int) : Prop where
  p : Cl w0 w b c s off
  r : RS w w n m t y d lo
  nb : n ≠ b
  nc : n ≠ c
  mb : m ≠ b
  mc : m ≠ c
  hn : w0.heap.size ≤ n
  hm : w0.heap.size ≤ m
theorem Ca.below {w0 w w' : World} {b c n m : Nat} {s t : By} {y : Nm} {off d : Bool} {lo : Int} (h : Ca w0 w b c n m s off t y d lo) (k : Below w.heap.size w w') : Ca w0 w' b c n m s off t y d lo :=
  ⟨h.p.below k, (h.r.below k).base, h.nb, h.nc, h.mb, h.mc, h.hn, h.hm⟩
/-- a call of the program's side. -/
theorem Ca.prog {w0 w w' : World} {b c n m : Nat} {s s' t : By} {y : Nm} {off off' d : Bool} {lo : Int} (h : Ca w0 w b c n m s off t y d lo) (p' : Cl w0 w' b c s' off') (k : Chg2 b c w w') : Ca w0 w' b c n m s' off' t y d lo :=
  ⟨p', h.r.chg2 k h.nb h.nc h.mb h.mc, h.nb, h.nc, h.mb, h.mc, h.hn, h.hm⟩
/-- a call of the document's side. -/
theorem Ca.ref {w0 w w' : World} {b c n m : Nat} {s t t' : By} {y y' : Nm} {off d d' : Bool} {lo lo' : Int} (h : Ca w0 w b c n m s off t y d lo) (r' : RS w w' n m t' y' d' lo') : Ca w0 w' b c n m s off t' y' d' lo' :=
  ⟨h.p.chg2 r'.x h.nb h.nc h.mb h.mc h.hn h.hm, r'.base, h.nb, h.nc, h.mb, h.mc, h.hn, h.hm⟩
/-- a place that is neither side's. -/
theorem Ca.frame {w0 w w' : World} {b c n m g : Nat} {s t : By} {y : Nm} {off d : Bool} {lo : Int} (h : Ca w0 w b c n m s off t y d lo) (k : Chg g w w') (h1 : g ≠ b) (h2 : g ≠ c) (h3 : g ≠ n) (h4 : g ≠ m) (h5 : w0.heap.size ≤ g) : Ca w0 w' b c n m s off t y d lo :=
  have k2 : Chg2 g g w w' := (Chg2.refl g g w).on k (Or.inl rfl)
  ⟨h.p.chg2 k2 h1 h2 h1 h2 h5 h5, h.r.chg2 k2 (fun e => h3 e.symm) (fun e => h3 e.symm) (fun e => h4 e.symm) (fun e => h4 e.symm), h.nb, h.nc, h.mb, h.mc, h.hn, h.hm⟩
theorem setCut_B' (s : By) (n : Int) : (s.setCut n).B = s.B := by
  unfold By.setCut
  split <;> rfl
section
variable {w0 w : World} {b c n m : Nat} {s t : By} {y : Nm} {off d : Bool} {lo : Int}
theorem ca_put (h : Ca w0 w b c n m s off t y d lo) (ep li : Int) (se : Nat → Addr) (E : Sents w0 se) :
    Calls Tryd.prog 56 #[.pointer (some ⟨c, 0, none⟩), .int .i64 ep, .int .i64 li] w fun e w' => e = .returned (terr se (putE off s ep li).1) ∧ Ca w0 w' b c n m (putE off s ep li).2.1 (putE off s ep li).2.2 t y d lo ∧ Chg2 b c w w' := by
  refine (put_cl h.p ep li se E).mono ?_
  rintro e w' ⟨rfl, a, k⟩
  exact ⟨rfl, h.prog a k, k⟩
theorem ca_rput (h : Ca w0 w b c n m s off t y d lo) (hy : newest t.B = y) (ep li : Int) (hlo : -900000 ≤ lo) :
    Calls Tryd.prog 68 #[.pointer (some ⟨m, 0, none⟩), .int .i64 ep, .int .i64 li] w fun e w' => e = .returned (.int .i64 (((putE d t ep li).1 : Nat) : Int)) ∧ Ca w0 w' b c n m s off (putE d t ep li).2.1 (newest (putE d t ep li).2.1.B) (putE d t ep li).2.2 (lo - 20) ∧ Chg2 n m w w' := by
  refine (rput_any h.r hy ep li hlo).mono ?_
  rintro e w' ⟨rfl, a⟩
  exact ⟨rfl, h.ref a, a.x⟩
theorem ca_cut (h : Ca w0 w b c n m s off t y d lo) (k : Int) (hk : k ≤ 9223372036854775807) (se : Nat → Addr) (E : Sents w0 se) :
    Calls Tryd.prog 55 #[.pointer (some ⟨b, 0, none⟩), .int .i64 k] w fun e w' => e = .returned (terr se (cutE s k)) ∧ Ca w0 w' b c n m (s.setCut k) off t y d lo ∧ Chg2 b c w w' := by
  refine (cut_cl h.p k hk se E).mono ?_
  rintro e w' ⟨rfl, a, k⟩
  exact ⟨rfl, h.prog a k, k⟩
theorem ca_rcut (h : Ca w0 w b c n m s off t y d lo) (k : Int) (hk : k ≤ 9223372036854775807) (hlo : lo ≤ 0) :
    Calls Tryd.prog 67 #[.pointer (some ⟨n, 0, none⟩), .int .i64 k] w fun e w' => e = .returned (.int .i64 ((cutE t k : Nat) : Int)) ∧ Ca w0 w' b c n m s off (t.setCut k) y d lo ∧ Chg2 n m w w' := by
  obtain ⟨lv, r1, r2, r3, r4⟩ := h.r.r
  refine (rcut_any n t lv k w r1).mono ?_
  rintro e w' ⟨rfl, a, x⟩
  have x2 : Chg2 n m w w' := (Chg2.refl n m w).on x (Or.inl rfl)
  refine ⟨rfl, h.ref ⟨⟨_, a, ?_, ?_, ?_⟩, h.r.c.chg x h.r.ne, h.r.ne, by rw [(setCut_B' t k)]; exact h.r.len, x2⟩, x2⟩
  · unfold By.setCut cutL cutE
    by_cases hk0 : k < 0
    · simp only [hk0, if_true]; exact r2
    · cases hon : t.on <;> simp [hk0]
      · exact r2
      · omega
  · unfold cutL
    split
    · rename_i hc
      unfold cutE at hc
      split at hc
      · cases hc
      · omega
    · exact r3
  · unfold cutL
    split
    · exact hk
    · exact r4
theorem ca_off (h : Ca w0 w b c n m s off t y d lo) :
    Calls Tryd.prog 65 #[.pointer (some ⟨b, 0, none⟩)] w fun e w' => e = .returned (.tuple #[]) ∧ Ca w0 w' b c n m s.off off t y d lo ∧ Chg2 b c w w' := by
  refine (boff_any b s w h.p.y).mono ?_
  rintro e w' ⟨rfl, a, k⟩
  have k2 : Chg2 b c w w' := (Chg2.refl b c w).on k (Or.inl rfl)
  exact ⟨rfl, h.prog (h.p.setC a k h.p.lf) k2, k2⟩
theorem ca_on (h : Ca w0 w b c n m s off t y d lo) :
    Calls Tryd.prog 58 #[.pointer (some ⟨b, 0, none⟩)] w fun e w' => e = .returned (.tuple #[]) ∧ Ca w0 w' b c n m s.turnOn off t y d lo ∧ Chg2 b c w w' := by
  refine (on_cl h.p).mono ?_
  rintro e w' ⟨rfl, a, k⟩
  exact ⟨rfl, h.prog a k, k⟩
theorem ca_ron (h : Ca w0 w b c n m s off t y d lo) :
    Calls Tryd.prog 66 #[.pointer (some ⟨n, 0, none⟩)] w fun e w' => e = .returned (.tuple #[]) ∧ Ca w0 w' b c n m s off t.turnOn y d lo ∧ Chg2 n m w w' := by
  obtain ⟨lv, r1, r2, r3, r4⟩ := h.r.r
  refine (ron_any n t lv w r1).mono ?_
  rintro e w' ⟨rfl, a, x⟩
  have x2 : Chg2 n m w w' := (Chg2.refl n m w).on x (Or.inl rfl)
  exact ⟨rfl, h.ref ⟨⟨lv, a, (fun e => by cases e), r3, r4⟩, h.r.c.chg x h.r.ne, h.r.ne, h.r.len, x2⟩, x2⟩
theorem Ca.roff (h : Ca w0 w b c n m s off t y d lo) : Ca w0 (w.setCell ⟨n, 1, none⟩ (.bool true)) b c n m s off t.off y d lo := by
  obtain ⟨lv, r1, r2, r3, r4⟩ := h.r.r
  exact h.ref ⟨⟨lv, r1.s1 false, r2, r3, r4⟩, h.r.c.chg (Chg.set n _ _ _) h.r.ne, h.r.ne, h.r.len, (Chg2.refl n m w).on (Chg.set n _ _ _) (Or.inl rfl)⟩
theorem ca_open (h : Ca w0 w b c n m s off t y d lo) (ho : s.on = true) :
    Calls Tryd.prog 54 #[.pointer (some ⟨b, 0, none⟩)] w fun e w' => ∃ c', e = .returned (.tuple #[.pointer (some ⟨c', 0, none⟩), .nilIface]) ∧ Ca w0 w' b c' n m s false t y d lo ∧ Below w.heap.size w w' ∧ w.heap.size ≤ c' := by
  refine (open_ok b s w h.p.y ho).mono ?_
  rintro e w' ⟨⟨rfl, a1⟩, a2⟩
  have l1 := h.p.y.lt
  obtain ⟨lv, r1, _⟩ := h.r.r
  have l2 := r1.lt
  have l3 := h.r.c.lt
  exact ⟨_, rfl, ⟨⟨h.p.y.below a2, a1, by omega, h.p.hb, h.p.bl.size, t2 h.p.bl a2, h.p.lf⟩, (h.r.below a2).base, h.nb, by omega, h.mb, by omega, h.hn, h.hm⟩, a2, Nat.le_refl _⟩
theorem ca_ropen (h : Ca w0 w b c n m s off t y d lo) :
    Calls Tryd.prog 64 #[.pointer (some ⟨n, 0, none⟩)] w fun e w' => ∃ m', e = .returned (.pointer (some ⟨m', 0, none⟩)) ∧ Ca w0 w' b c n m' s off t (newest t.B) false lo ∧ Below w.heap.size w w' ∧ w.heap.size ≤ m' := by
  obtain ⟨lv, r1, r2⟩ := h.r.r
  refine (ropen_any n t lv w r1 h.r.len).mono ?_
  rintro e w' ⟨⟨rfl, a1⟩, a2⟩
  have l1 := h.p.y.lt
  have l2 := r1.lt
  have l3 := h.p.e.lt
  exact ⟨_, rfl, ⟨h.p.below a2, ⟨⟨lv, r1.below a2, r2⟩, a1, by omega, h.r.len, Chg2.refl _ _ _⟩, h.nb, h.nc, by omega, by omega, h.hn, h.p.bl.size⟩, a2, Nat.le_refl _⟩
end
end Go.Proofs.YtdkfjjamfefcaabDoor
