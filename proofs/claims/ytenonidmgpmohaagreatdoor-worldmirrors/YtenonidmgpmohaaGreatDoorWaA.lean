/-
  A law's act: a step of a world, whichever.
-/
import Derived.Test.YtenonidmgpmohaaGreatDoorKq
import Derived.Test.YtenonidmgpmohaaGreatDoorWoTw
import Derived.Test.YtenonidmgpmohaaGreatDoorKr
import Derived.Test.YtenonidmgpmohaaGreatDoorKh
namespace Go.Proofs.YtenonidmgpmohaaGreatDoor
open Go.RowKit

/-- what a step leaves. -/
def ActV (w0 w : World) (K : WK) (W : Wo) (t : Nat) (w' : World) : Prop := ∃ K' W', Wd w0 w' K' W' (t + 1) ∧ Stp W W' ∧ Mv K K' w w'
theorem ActV.of {w0 w w' : World} {K K' : WK} {W W' : Wo} {t t' : Nat} (h : Wd w0 w' K' W' t') (ht : t' ≤ t + 1) (s : Stp W W') (m : Mv K K' w w') : ActV w0 w K W t w' := ⟨K', W', h.mono ht, s, m⟩
set_option maxRecDepth 100000 in
set_option maxHeartbeats 4000000 in
theorem act_wd {w0 w : World} {K : WK} {W : Wo} {t q : Nat} {s : Nat → Addr} (S : SeM w0 s) (h : Wd w0 w K W t) (hI : In q W) (hq : q ≤ 100000) (ht : t ≤ 2700) (hy : ∀ i, i < 2 → ∃ b, K.yk i = some b) (x : Sp) (hx : SpOk w x) (h30 : x.ru.length ≤ 30) :
    Calls Tryz.prog 8 #[.pointer (some ⟨K.wb, 0, none⟩), .agg #[.string x.kd, .int .i64 x.s, .int .i64 x.n, .int .i64 x.p.pr, .int .i64 x.p.a1, .int .i64 x.p.p1, .int .i64 x.p.a2, .int .i64 x.p.p2, .int .i64 x.p.fl, x.rv]] w fun e w' => e = .returned (.tuple #[]) ∧ ActV w0 w K W t w' := by
  have HS : Hid (SeM w0 s) := S
  have HW : Hid (Wd w0 w K W t) := h
  have HTK : Hid (∀ (i : Nat) y, x.s = i → W.nd i = some y → y.tkE = 0 ∨ y.tkE = 7) := fun i y _ hy => (hI.up i y hy).tkE hq
  have HUP : Hid (∀ i : Nat, x.s = i → i < 2 → W.nd i = none → ∃ b, K.yk i = some b ∧ NewOk i (W.yb i).oned W.ru) := fun i _ hi hn => by
    obtain ⟨b, hb⟩ := hy i hi
    exact ⟨b, hb, (hI.dn i hi hn).newOk hq hi h.ro⟩
  have HT : Hid (t ≤ 2700) := ht
  have HX : Hid (SpOk w x) := hx
  have H30 : Hid (x.ru.length ≤ 1000) := by show x.ru.length ≤ 1000; omega
  clear S h hI hq ht hy hx h30
  go_enter Tryz.func8, Tryz.ntmps8
  go_upto_region 1 with fail
  have hc : ∀ j u, (spC x)[j]? = some u → (w.alloc (.cells #[.string x.kd, .int .i64 x.s, .int .i64 x.n, .int .i64 x.p.pr, .int .i64 x.p.a1, .int .i64 x.p.p1, .int .i64 x.p.a2, .int .i64 x.p.p2, .int .i64 x.p.fl, x.rv] 38)).cell? ⟨w.heap.size, j, none⟩ = some u := fun j u hu => by rw [nw]; simpa [spC] using hu
  have c0 := hc 0 (.string x.kd) rfl
  have c1 := hc 1 (.int .i64 x.s) rfl
  have c2 := hc 2 (.int .i64 x.n) rfl
  have c3 := hc 3 (.int .i64 x.p.pr) rfl
  have c4 := hc 4 (.int .i64 x.p.a1) rfl
  have c5 := hc 5 (.int .i64 x.p.p1) rfl
  have c6 := hc 6 (.int .i64 x.p.a2) rfl
  have c7 := hc 7 (.int .i64 x.p.p2) rfl
  have c8 := hc 8 (.int .i64 x.p.fl) rfl
  have c9 := hc 9 (x.rv) rfl
  have B1 : Hid (Below w.heap.size w (w.alloc (.cells #[.string x.kd, .int .i64 x.s, .int .i64 x.n, .int .i64 x.p.pr, .int .i64 x.p.a1, .int .i64 x.p.p1, .int .i64 x.p.a2, .int .i64 x.p.p2, .int .i64 x.p.fl, x.rv] 38))) := aB _ _
  generalize w.alloc (.cells #[.string x.kd, .int .i64 x.s, .int .i64 x.n, .int .i64 x.p.pr, .int .i64 x.p.a1, .int .i64 x.p.p1, .int .i64 x.p.a2, .int .i64 x.p.p2, .int .i64 x.p.fl, x.rv] 38) = w1 at *
  have W1 : Hid (Wd w0 w1 K W t) := HW.out.below B1.out
  have R1 : Hid (Sl w1 x.rv x.ru) := HX.out.ru.below B1.out
  generalize w.heap.size = Q at c0 c1 c2 c3 c4 c5 c6 c7 c8 c9 ⊢
  clear hc
  go_wp2_with fail
  · refine (tick_wd HS.out W1.out HT.out x.s HTK.out).mono ?_
    rintro e w3 ⟨rfl, K3, wd3, m3⟩
    have A3 : Hid (ActV w0 w K W t w3) := ActV.of wd3 (Nat.le_refl _) (Stp.tick W x.s) ((Mv.of B1.out).trans m3)
    clear wd3 m3
    go_wp2_with fail
    go_end0
    exact ⟨rfl, A3.out⟩
  · refine (down_wd HS.out W1.out x.s).mono ?_
    rintro e w3 ⟨rfl, K3, wd3, m3⟩
    have A3 : Hid (ActV w0 w K W t w3) := ActV.of wd3 (Nat.le_succ _) (Stp.down W x.s) ((Mv.of B1.out).trans m3)
    clear wd3 m3
    go_wp2_with fail
    go_end0
    exact ⟨rfl, A3.out⟩
  · refine (rup_wd HS.out W1.out x.s HUP.out).mono ?_
    rintro e w3 ⟨rfl, K3, wd3, m3⟩
    have A3 : Hid (ActV w0 w K W t w3) := ActV.of wd3 (Nat.le_succ _) (Stp.up W x.s) ((Mv.of B1.out).trans m3)
    clear wd3 m3
    go_wp2_with fail
    go_end0
    exact ⟨rfl, A3.out⟩
  · refine (cut_wd HS.out W1.out x.s x.n HX.out.n1).mono ?_
    rintro e w3 ⟨rfl, wd3, m3⟩
    have A3 : Hid (ActV w0 w K W t w3) := ActV.of wd3 (Nat.le_succ _) (Stp.cut W x.s x.n) ((Mv.of B1.out).trans m3)
    clear wd3 m3
    go_wp2_with fail
    go_end0
    exact ⟨rfl, A3.out⟩
  · refine (inside_wd HS.out W1.out HT.out x.p HX.out.pr).mono ?_
    rintro e w3 ⟨rfl, wd3, m3⟩
    have A3 : Hid (ActV w0 w K W t w3) := ActV.of wd3 (Nat.le_refl _) (Stp.ins W x.p) ((Mv.of B1.out).trans m3)
    clear wd3 m3
    go_wp2_with fail
    go_end0
    exact ⟨rfl, A3.out⟩
  · refine (outside_wd HS.out W1.out HT.out x.p).mono ?_
    rintro e w3 ⟨rfl, wd3, m3⟩
    have A3 : Hid (ActV w0 w K W t w3) := ActV.of wd3 (Nat.le_refl _) (Stp.ots W x.p) ((Mv.of B1.out).trans m3)
    clear wd3 m3
    go_wp2_with fail
    go_end0
    exact ⟨rfl, A3.out⟩
  · refine (drop_wd HS.out W1.out x.n).mono ?_
    rintro e w3 ⟨rfl, K3, wd3, m3⟩
    have A3 : Hid (ActV w0 w K W t w3) := ActV.of wd3 (Nat.le_succ _) (Stp.drop W x.n) ((Mv.of B1.out).trans m3)
    clear wd3 m3
    go_wp2_with fail
    go_end0
    exact ⟨rfl, A3.out⟩
  · refine (twice_wd HS.out W1.out x.n).mono ?_
    rintro e w3 ⟨rfl, K3, wd3, m3⟩
    have A3 : Hid (ActV w0 w K W t w3) := ActV.of wd3 (Nat.le_succ _) (Stp.twice W x.n) ((Mv.of B1.out).trans m3)
    clear wd3 m3
    go_wp2_with fail
    go_end0
    exact ⟨rfl, A3.out⟩
  · refine (own_at x.rv x.ru w1 R1.out H30.out).mono ?_
    rintro e w2 ⟨⟨v2, rfl, s2, a2⟩, b2⟩
    have B2 : Hid (Below w.heap.size w w2) := t2 B1.out b2
    have W2 : Hid (Wd w0 w2 K W t) := W1.out.below b2
    have F2 : Hid (FarT w0 w2 K v2 x.ru) := ⟨s2, fun a n c e => .inr ⟨(a2 a n c e).2, W1.out.al _ (a2 a n c e).1⟩⟩
    clear s2 a2 b2
    go_wp2_with fail
    refine (rules_wd HS.out W2.out v2 x.ru F2.out H30.out).mono ?_
    rintro e w3 hcase
    have A3 : Hid (ActV w0 w K W t w3) := by
      rcases hcase with ⟨ok, _, K3, wd3, m3⟩ | ⟨_, _, wd3, m3⟩
      · exact ActV.of wd3 (Nat.le_succ _) (Stp.rules W x.ru ok) ((Mv.of B2.out).trans m3)
      · exact ActV.of wd3 (Nat.le_succ _) (Stp.stay W) ((Mv.of B2.out).trans m3)
    obtain ⟨v3, rfl⟩ : ∃ v3, e = .returned v3 := by
      rcases hcase with ⟨_, e, _⟩ | ⟨_, ⟨v3, e, _⟩, _⟩
      · exact ⟨_, e⟩
      · exact ⟨_, e⟩
    clear hcase
    go_wp2_with fail
    go_end0
    exact ⟨rfl, A3.out⟩
  · refine (deliver_wd HS.out W1.out x.n).mono ?_
    rintro e w3 ⟨rfl, K3, wd3, m3⟩
    have A3 : Hid (ActV w0 w K W t w3) := ActV.of wd3 (Nat.le_succ _) (Stp.dlv W x.n) ((Mv.of B1.out).trans m3)
    clear wd3 m3
    go_wp2_with fail
    go_end0
    exact ⟨rfl, A3.out⟩
end Go.Proofs.YtenonidmgpmohaaGreatDoor
