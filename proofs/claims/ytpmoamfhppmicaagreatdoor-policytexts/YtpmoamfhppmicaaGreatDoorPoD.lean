/-
  Package policy's Admits.
-/
import Derived.Test.YtpmoamfhppmicaaGreatDoorPoQ
import Derived.Test.YtpmoamfhppmicaaGreatDoorPoB
namespace Go.Proofs.YtpmoamfhppmicaaGreatDoor
open Go.RowKit

theorem Rul.below {w w' : World} {p : Option Addr} {l : List Rl} (R : Rul w p l) (hb : Below w.heap.size w w') : Rul w' p l := R.keep fun _ _ h => Below.keeps hb h
theorem below2 {w w1 w2 : World} (h1 : Below w.heap.size w w1) (h2 : Below w1.heap.size w1 w2) : Below w.heap.size w w2 := h1.trans (h2.mono h1.size)
/-- what the function that admitter makes has kept. -/
structure AdmF (w : World) (B : Nat) (p : Option Addr) (n cap : Nat) (pr : Int) (ou : Bool) : Prop where
  c0 : w.cell? ⟨B, 0, none⟩ = some (.slice p n cap)
  c1 : w.cell? ⟨B + 1, 0, none⟩ = some (.int .i64 pr)
  c2 : w.cell? ⟨B + 2, 0, none⟩ = some (.bool ou)
theorem AdmF.below {w w' : World} {B : Nat} {p : Option Addr} {n cap : Nat} {pr : Int} {ou : Bool} (h : AdmF w B p n cap pr ou) (hb : Below w.heap.size w w') : AdmF w' B p n cap pr ou :=
  ⟨Below.keeps hb h.c0, Below.keeps hb h.c1, Below.keeps hb h.c2⟩
abbrev admFn (B : Nat) : Value := .func (.func 41) #[] #[.pointer (some ⟨B, 0, none⟩), .pointer (some ⟨B + 2, 0, none⟩), .pointer (some ⟨B + 1, 0, none⟩)]
theorem admitter_at (B : Nat) (p : Option Addr) (n cap : Nat) (pr : Int) (ou : Bool) (w : World) (hB : w.heap.size = B) : Calls Tryz.prog 27 #[.slice p n cap, .int .i64 pr, .bool ou] w fun e w' =>
    e = .returned (admFn B) ∧ AdmF w' B p n cap pr ou ∧ Below w.heap.size w w' := by
  subst hB
  refine (admitter_any p n cap pr ou w).mono ?_
  rintro e w' ⟨rfl, rfl⟩
  exact ⟨rfl, ⟨by simp [go_sem], by simp [go_sem], by simp [go_sem]⟩, (((Below.refl _ _).alloc (Nat.le_refl _) _).alloc (by simp) _).alloc (by simp; omega) _⟩
theorem admit_at (B : Nat) (p : Option Addr) (l : List Rl) (cap : Nat) (pr port : Int) (ou : Bool) (w : World) (F : AdmF w B p l.length cap pr ou) (R : Rul w p l) (hl : l.length ≤ 1000) :
    Calls Tryz.prog 41 #[.int .i64 port, .pointer (some ⟨B, 0, none⟩), .pointer (some ⟨B + 2, 0, none⟩), .pointer (some ⟨B + 1, 0, none⟩)] w fun e w' => e = .returned (.bool (adm l pr ou port)) ∧ Below w.heap.size w w' :=
  admit_any p l cap pr port ou _ _ _ w R hl F.c0 F.c2 F.c1
theorem Below.drewl {B : Nat} {w w' : World} (h : Below B w.drew w') : Below B w w' := ⟨h.os, h.tape, h.output, h.size, h.block⟩
theorem errVpos (s : Nat → Addr) (k : Nat) : errV s (k + 1) = .iface 161 (.pointer (some (s k))) := rfl
def RulesOk (l : List Rl) : Prop := l.length ≤ 20 ∧ chkAt l 0 = none
/-- what Admits answers. -/
def AdmV (s : Nat → Addr) (w : World) (l : List Rl) (pr a1 p1 a2 p2 fl : Int) (ou : Bool) (v : Value) (b : Bool) : Prop :=
  (¬ RulesOk l ∧ ChkV s w l v ∧ b = false) ∨ (RulesOk l ∧ (∃ k, pkErr pr a1 p1 a2 p2 fl = k + 1 ∧ v = errV s (k + 1)) ∧ b = false) ∨ (RulesOk l ∧ pkErr pr a1 p1 a2 p2 fl = 0 ∧ v = .nilIface ∧ b = adm l pr ou p2)

set_option maxRecDepth 100000 in
set_option maxHeartbeats 2000000 in
theorem admits_any (p : Option Addr) (l : List Rl) (cap : Nat) (pr a1 p1 a2 p2 fl : Int) (ou : Bool) (s : Nat → Addr) (w : World) (S : Sen w s) (R : Rul w p l) (hl : l.length ≤ 1000) :
    Calls Tryz.prog 14 #[.slice p l.length cap, pkt pr a1 p1 a2 p2 fl, .bool ou] w fun e w' => (∃ v b, e = .returned (.tuple #[.bool b, v]) ∧ AdmV s w' l pr a1 p1 a2 p2 fl ou v b) ∧ Below w.heap.size w w' := by
  have HR : Hid (Rul w p l) := R
  have HS : Hid (Sen w s) := S
  clear R S
  have b1 : Hid (Below w.heap.size w (w.alloc (.cells #[.int .i64 pr, .int .i64 a1, .int .i64 p1, .int .i64 a2, .int .i64 p2, .int .i64 fl] 48))) := (Below.refl _ _).alloc (Nat.le_refl _) _
  go_enter Tryz.func14, Tryz.ntmps14
  go_wp2_with fail
  refine (pcheck_any p l cap s _ (HS.out.below b1.out) (HR.out.below b1.out) hl).mono ?_
  rintro e w1 ⟨⟨v, rfl, hv⟩, hb1⟩
  obtain ⟨c0, c1, c2, c3, c4, c5⟩ := box6 hb1
  have B1 : Hid (Below w.heap.size w w1) := below2 b1.out hb1
  clear hb1
  rcases hv with ⟨h1, rfl⟩ | ⟨h1, h2, rfl⟩ | ⟨h1, i, g, h2, rfl, h3, h4⟩
  · unfold errV
    clear c0 c1 c2 c3 c4 c5
    go_wp2_with fail
    go_ret2
    exact ⟨⟨_, _, rfl, .inl ⟨fun h => by have := h.1; omega, .inl ⟨h1, rfl⟩, rfl⟩⟩, B1.out⟩
  · have HK : Hid (RulesOk l) := ⟨h1, h2⟩
    clear h1 h2
    go_wp2_with fail
    refine (check_any pr a1 p1 a2 p2 fl s _ (HS.out.below B1.out)).mono ?_
    rintro e w2 ⟨rfl, hb2⟩
    have B2 : Hid (Below w.heap.size w w2) := below2 B1.out hb2
    have k0 := Below.keeps hb2 c0
    have k4 := Below.keeps hb2 c4
    clear hb2 c0 c1 c2 c3 c4 c5
    rcases hk : pkErr pr a1 p1 a2 p2 fl with _ | k
    · have HZ : Hid (pkErr pr a1 p1 a2 p2 fl = 0) := hk
      clear hk
      unfold errV
      go_wp2_with fail
      go_region_with (first
        | (go_at_call 27; refine (admitter_at w2.heap.size p l.length cap pr ou _ (by rfl)).mono ?_; rintro e w3 ⟨rfl, hF, hb3⟩;
            have HB3 : Hid (Below w.heap.size w w3) := below2 B2.out (Below.drewl hb3); have HF : Hid (AdmF w3 w2.heap.size p l.length cap pr ou) := hF; have m4 := Below.keeps (Below.drewl hb3) k4; clear hF hb3)
        | (go_at_call 41; refine (admit_at w2.heap.size p l cap pr p2 ou _ HF.out (HR.out.below HB3.out) hl).mono ?_; rintro e w4 ⟨rfl, hb4⟩; have B4 : Hid (Below w.heap.size w w4) := below2 HB3.out hb4; clear hb4))
      all_goals go_wp2_with fail
      all_goals go_ret2
      all_goals exact ⟨⟨_, _, rfl, .inr (.inr ⟨HK.out, HZ.out, rfl, rfl⟩)⟩, B4.out⟩
    · have HZ : Hid (pkErr pr a1 p1 a2 p2 fl = k + 1) := hk
      clear hk
      rw [errVpos]
      go_wp2_with fail
      go_ret2
      exact ⟨⟨_, _, rfl, .inr (.inl ⟨HK.out, ⟨k, HZ.out, rfl⟩, rfl⟩)⟩, B2.out⟩
  · have H : Hid (l.length ≤ 20 ∧ chkAt l 0 = some i ∧ w1.cell? ⟨g, 0, none⟩ = some (.int .i64 i) ∧ w1.cell? ⟨g, 1, none⟩ = some (.iface 161 (.pointer (some (s 1))))) := ⟨h1, h2, h3, h4⟩
    clear h1 h2 h3 h4 c0 c1 c2 c3 c4 c5
    go_wp2_with fail
    go_ret2
    obtain ⟨h1, h2, h3, h4⟩ := H.out
    exact ⟨⟨_, _, rfl, .inl ⟨fun h => absurd (h2.symm.trans h.2) (by simp), .inr (.inr ⟨h1, i, g, h2, rfl, h3, h4⟩), rfl⟩⟩, B1.out⟩
end Go.Proofs.YtpmoamfhppmicaaGreatDoor
