/-
  The law PolicyAdmits, walked.
-/
import Derived.Test.YtgmdnooknnikfaaDoorPaB
import Derived.Test.YtgmdnooknnikfaaDoorPaF
import Derived.Test.YtgmdnooknnikfaaDoorPsD
import Derived.Test.YtgmdnooknnikfaaDoorPoH
import Derived.Test.YtgmdnooknnikfaaDoorCoded
import Derived.Deep.RegionHeld3
import Derived.Deep.DeepCutAuto
import Derived.Deep.CutRange
namespace Go.Proofs.YtgmdnooknnikfaaDoor
open Go.RowKit

/-- a block of two numbers. -/
structure Two (W : World) (b : Nat) (x y : Int) : Prop where
  c0 : W.cell? ⟨b, 0, none⟩ = some (.int .i64 x)
  c1 : W.cell? ⟨b, 1, none⟩ = some (.int .i64 y)
  f0 : W.frozen? ⟨b, 0, none⟩ = false
  f1 : W.frozen? ⟨b, 1, none⟩ = false
theorem Two.below {W W' : World} {b : Nat} {x y : Int} (h : Two W b x y) (hb : Below W.heap.size W W') : Two W' b x y := ⟨Below.keeps hb h.c0, Below.keeps hb h.c1, fr_keeps hb h.c0 h.f0, fr_keeps hb h.c1 h.f1⟩
theorem Two.new (W : World) (x y : Int) (t : TypeId) : Two (W.alloc (.cells #[.int .i64 x, .int .i64 y] t)) W.heap.size x y :=
  ⟨by simp, by simp, by rw [World.frozen?_alloc_at _ _ _ _ rfl], by rw [World.frozen?_alloc_at _ _ _ _ rfl]⟩
theorem Two.put {W : World} {b : Nat} {x y : Int} (h : Two W b x y) (x' y' : Int) : Two ((W.setCell ⟨b, 0, none⟩ (.int .i64 x')).setCell ⟨b, 1, none⟩ (.int .i64 y')) b x' y' where
  c0 := by
    rw [World.cell?_setCell_other _ _ _ _ (by simp), World.cell?_setCell_same _ _ _ h.c0]
  c1 := by
    rw [World.cell?_setCell_same _ _ _ (u := .int .i64 y) (by rw [World.cell?_setCell_other _ _ _ _ (by simp)]; exact h.c1)]
  f0 := by rw [World.frozen?_setCell, World.frozen?_setCell]; exact h.f0
  f1 := by rw [World.frozen?_setCell, World.frozen?_setCell]; exact h.f1
theorem Two.other {W : World} {b : Nat} {x y : Int} (h : Two W b x y) {d : Nat} (hd : d ≠ b) (i j : Nat) (u v : Value) : Two ((W.setCell ⟨d, i, none⟩ u).setCell ⟨d, j, none⟩ v) b x y where
  c0 := by rw [World.cell?_setCell_other _ _ _ _ (fun e => hd (congrArg Addr.block e)), World.cell?_setCell_other _ _ _ _ (fun e => hd (congrArg Addr.block e))]; exact h.c0
  c1 := by rw [World.cell?_setCell_other _ _ _ _ (fun e => hd (congrArg Addr.block e)), World.cell?_setCell_other _ _ _ _ (fun e => hd (congrArg Addr.block e))]; exact h.c1
  f0 := by rw [World.frozen?_setCell, World.frozen?_setCell]; exact h.f0
  f1 := by rw [World.frozen?_setCell, World.frozen?_setCell]; exact h.f1
/-- a block of six numbers. -/
structure Pk6 (W : World) (b : Nat) (pr a1 p1 a2 p2 fl : Int) : Prop where
  c0 : W.cell? ⟨b, 0, none⟩ = some (.int .i64 pr)
  c1 : W.cell? ⟨b, 1, none⟩ = some (.int .i64 a1)
  c2 : W.cell? ⟨b, 2, none⟩ = some (.int .i64 p1)
  c3 : W.cell? ⟨b, 3, none⟩ = some (.int .i64 a2)
  c4 : W.cell? ⟨b, 4, none⟩ = some (.int .i64 p2)
  c5 : W.cell? ⟨b, 5, none⟩ = some (.int .i64 fl)
theorem Pk6.below {W W' : World} {b : Nat} {pr a1 p1 a2 p2 fl : Int} (h : Pk6 W b pr a1 p1 a2 p2 fl) (hb : Below W.heap.size W W') : Pk6 W' b pr a1 p1 a2 p2 fl :=
  ⟨Below.keeps hb h.c0, Below.keeps hb h.c1, Below.keeps hb h.c2, Below.keeps hb h.c3, Below.keeps hb h.c4, Below.keeps hb h.c5⟩
theorem Pk6.drew {W : World} {b : Nat} {pr a1 p1 a2 p2 fl : Int} (h : Pk6 W b pr a1 p1 a2 p2 fl) : Pk6 W.drew b pr a1 p1 a2 p2 fl := ⟨h.c0, h.c1, h.c2, h.c3, h.c4, h.c5⟩
theorem Pk6.all {w W : World} {b : Nat} {pr a1 p1 a2 p2 fl : Int} (h : Pk6 W b pr a1 p1 a2 p2 fl) (hb : Below w.heap.size w W) : W.cell? ⟨b, 0, none⟩ = some (.int .i64 pr) ∧ W.cell? ⟨b, 1, none⟩ = some (.int .i64 a1) ∧ W.cell? ⟨b, 2, none⟩ = some (.int .i64 p1) ∧
    W.cell? ⟨b, 3, none⟩ = some (.int .i64 a2) ∧ W.cell? ⟨b, 4, none⟩ = some (.int .i64 p2) ∧ W.cell? ⟨b, 5, none⟩ = some (.int .i64 fl) ∧ Pk6 W b pr a1 p1 a2 p2 fl ∧ Below w.heap.size w W := ⟨h.c0, h.c1, h.c2, h.c3, h.c4, h.c5, h, hb⟩
theorem adm_held {w W : World} {p : Option Addr} {l : List Rl} {cap pb : Nat} {pr a1 p1 a2 p2 fl : Int} {ou : Bool} {s : Nat → Addr} (hl : l.length ≤ 1000) (S : Sen w s) (R : Rul W p l) (hb : Below w.heap.size w W) (P : Pk6 W pb pr a1 p1 a2 p2 fl) :
    Calls Tryd.prog 14 #[.slice p l.length cap, pkt pr a1 p1 a2 p2 fl, .bool ou] W fun e w' => ∃ v b, e = .returned (.tuple #[.bool b, v]) ∧ (AdmV s w' l pr a1 p1 a2 p2 fl ou v b ∧ Below w.heap.size w w' ∧ Pk6 w' pb pr a1 p1 a2 p2 fl) := by
  refine (admits_any p l cap pr a1 p1 a2 p2 fl ou s W (S.below hb) R hl).mono ?_
  rintro e w' ⟨⟨v, b, rfl, hv⟩, hb'⟩
  exact ⟨v, b, rfl, hv, below2 hb hb', P.below hb'⟩
theorem AdmV.below {s : Nat → Addr} {w w' : World} {l : List Rl} {pr a1 p1 a2 p2 fl : Int} {ou : Bool} {v : Value} {b : Bool} (h : AdmV s w l pr a1 p1 a2 p2 fl ou v b) (hb : Below w.heap.size w w') : AdmV s w' l pr a1 p1 a2 p2 fl ou v b := by
  rcases h with ⟨h1, h2, h3⟩ | h | h
  · exact .inl ⟨h1, h2.below hb, h3⟩
  · exact .inr (.inl h)
  · exact .inr (.inr h)
theorem SameV.below {s : Nat → Addr} {w w' : World} {a b : List Rl} {v : Value} {x : Bool} (h : SameV s w a b v x) (hb : Below w.heap.size w w') : SameV s w' a b v x := by
  rcases h with ⟨h1, h2, h3⟩ | ⟨h1, h2, h3, h4⟩ | h
  · exact .inl ⟨h1, h2.below hb, h3⟩
  · exact .inr (.inl ⟨h1, h2, h3.below hb, h4⟩)
  · exact .inr (.inr h)
/-- the second fault. -/
def gOf (l m : List Rl) : Int × Int := if (faultOf l).1 = 0 then faultOf m else faultOf l
/-- what stands in the law's walk: two blocks of two numbers, made behind w. -/
structure Cut8 (w W : World) (F G : Int × Int) : Prop where
  f : Two W w.heap.size F.1 F.2
  g : Two W (w.heap.size + 1) G.1 G.2
  x : Below w.heap.size w W
theorem Cut8.below {w W W' : World} {F G : Int × Int} (h : Cut8 w W F G) (hb : Below W.heap.size W W') : Cut8 w W' F G := ⟨h.f.below hb, h.g.below hb, below2 h.x hb⟩
theorem Cut8.drew {w W : World} {F G : Int × Int} (h : Cut8 w W F G) : Cut8 w W.drew F G := ⟨⟨h.f.c0, h.f.c1, h.f.f0, h.f.f1⟩, ⟨h.g.c0, h.g.c1, h.g.f0, h.g.f1⟩, h.x.drew⟩
theorem Cut8.putG {w W : World} {F G : Int × Int} (h : Cut8 w W F G) (x y : Int) : Cut8 w ((W.setCell ⟨w.heap.size + 1, 0, none⟩ (.int .i64 x)).setCell ⟨w.heap.size + 1, 1, none⟩ (.int .i64 y)) F (x, y) :=
  ⟨h.f.other (by omega) _ _ _ _, h.g.put x y, (h.x.setCell (by simp) _).setCell (by simp) _⟩
theorem Cut8.putF {w W : World} {F G : Int × Int} (h : Cut8 w W F G) (x y : Int) : Cut8 w ((W.setCell ⟨w.heap.size, 0, none⟩ (.int .i64 x)).setCell ⟨w.heap.size, 1, none⟩ (.int .i64 y)) (x, y) G :=
  ⟨h.f.put x y, h.g.other (by omega) _ _ _ _, (h.x.setCell (by simp) _).setCell (by simp) _⟩
theorem Cut8.new (W : World) (fc fa : Int) : Cut8 W ((W.alloc (.cells #[.int .i64 fc, .int .i64 fa] 45)).alloc (.cells #[.int .i64 fc, .int .i64 fa] 45)) (fc, fa) (fc, fa) := by
  have x1 : Below W.heap.size W (W.alloc (.cells #[.int .i64 fc, .int .i64 fa] 45)) := (Below.refl _ _).alloc (Nat.le_refl _) _
  have e : (W.alloc (.cells #[.int .i64 fc, .int .i64 fa] 45)).heap.size = W.heap.size + 1 := by simp
  have x2 : Below (W.alloc (.cells #[.int .i64 fc, .int .i64 fa] 45)).heap.size _ ((W.alloc (.cells #[.int .i64 fc, .int .i64 fa] 45)).alloc (.cells #[.int .i64 fc, .int .i64 fa] 45)) := (Below.refl _ _).alloc (Nat.le_refl _) _
  refine ⟨(Two.new W fc fa _).below x2, ?_, below2 x1 x2⟩
  rw [← e]
  exact Two.new _ fc fa _
theorem Cut8.all {w W : World} {F G : Int × Int} (h : Cut8 w W F G) : W.cell? ⟨w.heap.size, 0, none⟩ = some (.int .i64 F.1) ∧ W.cell? ⟨w.heap.size, 1, none⟩ = some (.int .i64 F.2) ∧ Cut8 w W F G := ⟨h.f.c0, h.f.c1, h⟩
theorem own_c {w w7 W : World} {v0 : Value} {l : List Rl} {F G : Int × Int} (hl : l.length ≤ 1000) (L : Sl w v0 l) (hb : Below w.heap.size w w7) (N : Cut8 w7 W F G) :
    Calls Tryd.prog 15 #[v0] W fun e w' => ∃ p k, e = .returned (.slice p l.length k) ∧ (Rul w' p l ∧ Cut8 w7 w' F G) := by
  refine (own_any v0 l W (L.below (below2 hb N.x)) hl).mono ?_
  rintro e w' ⟨⟨v', rfl, hv⟩, hb'⟩
  obtain ⟨p, k, rfl, hR⟩ := hv.open
  exact ⟨p, k, rfl, hR, N.below hb'⟩
theorem chk_c {w w7 W : World} {p : Option Addr} {l : List Rl} {cap : Nat} {s : Nat → Addr} {F G : Int × Int} (hl : l.length ≤ 1000) (S : Sen w s) (R : Rul W p l) (hb : Below w.heap.size w w7) (N : Cut8 w7 W F G) :
    Calls Tryd.prog 19 #[.slice p l.length cap] W fun e w' => ∃ v, e = .returned v ∧ (ChkV s w' l v ∧ Cut8 w7 w' F G) := by
  refine (pcheck_any p l cap s W (S.below (below2 hb N.x)) R hl).mono ?_
  rintro e w' ⟨⟨v, rfl, hv⟩, hb'⟩
  exact ⟨v, rfl, hv, N.below hb'⟩
theorem flt_c {w w7 W : World} {l : List Rl} {v : Value} {s : Nat → Addr} {F G : Int × Int} {fc fa : Int} (hF : faultOf l = (fc, fa)) (S : Sents w s) (h : ChkV s W l v) (hb : Below w.heap.size w w7) (N : Cut8 w7 W F G) :
    Calls Tryd.prog 18 #[v, .agg #[.int .i64 fc, .int .i64 fa]] W fun e w' => e = .returned (.bool true) ∧ Cut8 w7 w' F G := by
  have h1 := faulted_chk s W (S.below (below2 hb N.x)) h
  rw [hF] at h1
  refine h1.mono ?_
  rintro e w' ⟨rfl, hb'⟩
  exact ⟨rfl, N.below hb'⟩
theorem fault_ok {l : List Rl} (h : RulesOk l) : faultOf l = (0, -1) := by unfold faultOf; rw [if_neg (by have := h.1; omega), h.2]
theorem fault_bad {l : List Rl} (h : ¬ RulesOk l) : (faultOf l).1 = 2 := by
  unfold faultOf
  split
  · rfl
  · split
    · rfl
    · rename_i h1 h2; exact absurd ⟨by omega, h2⟩ h
theorem own_held {w W : World} {v0 : Value} {l : List Rl} {pb : Nat} {pr a1 p1 a2 p2 fl : Int} (hl : l.length ≤ 1000) (L : Sl w v0 l) (hb : Below w.heap.size w W) (P : Pk6 W pb pr a1 p1 a2 p2 fl) :
    Calls Tryd.prog 15 #[v0] W fun e w' => ∃ p k, e = .returned (.slice p l.length k) ∧ (Rul w' p l ∧ Below w.heap.size w w' ∧ Pk6 w' pb pr a1 p1 a2 p2 fl) := by
  refine (own_any v0 l W (L.below hb) hl).mono ?_
  rintro e w' ⟨⟨v', rfl, hv⟩, hb'⟩
  obtain ⟨p, k, rfl, hR⟩ := hv.open
  exact ⟨p, k, rfl, hR, below2 hb hb', P.below hb'⟩
set_option maxRecDepth 100000 in
set_option maxHeartbeats 4000000 in
theorem admits_law (v0 v3 : Value) (l m : List Rl) (pr a1 p1 a2 p2 fl : Int) (ou : Bool) (s : Nat → Addr) (w : World) (S : Sents w s) (E : EnvQ w s) (L : Sl w v0 l) (M : Sl w v3 m) :
    Calls Tryd.prog 4 #[v0, pkt pr a1 p1 a2 p2 fl, .bool ou, v3] w fun e w' => e = .returned (.bool true) ∧ Below w.heap.size w w' := by
  have HS : Hid (Sents w s) := S
  have HE : Hid (EnvQ w s) := E
  have HL : Hid (Sl w v0 l) := L
  have HM : Hid (Sl w v3 m) := M
  obtain ⟨q0, k0, hv0, R0⟩ := L.open
  obtain ⟨q3, k3, hv3, R3⟩ := M.open
  have HR0 : Hid (Rul w q0 l) := R0
  have HR3 : Hid (Rul w q3 m) := R3
  subst hv0 hv3
  clear S E L M R0 R3
  have P0 : Hid (Pk6 (w.alloc (.cells #[.int .i64 pr, .int .i64 a1, .int .i64 p1, .int .i64 a2, .int .i64 p2, .int .i64 fl] 39)) w.heap.size pr a1 p1 a2 p2 fl) := ⟨by simp, by simp, by simp, by simp, by simp, by simp⟩
  have B0 : Hid (Below w.heap.size w (w.alloc (.cells #[.int .i64 pr, .int .i64 a1, .int .i64 p1, .int .i64 a2, .int .i64 p2, .int .i64 fl] 39))) := (Below.refl _ _).alloc (Nat.le_refl _) _
  go_enter Tryd.func4, Tryd.ntmps4
  go_wp2_with fail
  refine (ruled_any s _ (HE.out.below B0.out)).mono ?_
  rintro e w1 ⟨rfl, hb1⟩
  have P1 : Hid (Pk6 w1 w.heap.size pr a1 p1 a2 p2 fl) := P0.out.below hb1
  have B1 : Hid (Below w.heap.size w w1) := below2 B0.out hb1
  clear hb1 P0 B0
  by_cases hs1 : 40 < l.length
  · go_wp2_with fail
    all_goals go_ret
    all_goals exact ⟨rfl, B1.out⟩
  by_cases hs2 : 40 < m.length
  · go_wp2_with fail
    all_goals go_ret
    all_goals exact ⟨rfl, B1.out⟩
  have hz1 : decide ((40 : Int) < (l.length : Int)) = false := by simp; omega
  have hz2 : decide ((40 : Int) < (m.length : Int)) = false := by simp; omega
  have hl : l.length ≤ 1000 := by omega
  have hm : m.length ≤ 1000 := by omega
  clear hs1 hs2
  go_wp2_with fail
  go_region_held3 (fun w' => w'.cell? ⟨w.heap.size, 0, none⟩ = some (.int .i64 pr) ∧ w'.cell? ⟨w.heap.size, 1, none⟩ = some (.int .i64 a1) ∧ w'.cell? ⟨w.heap.size, 2, none⟩ = some (.int .i64 p1) ∧ w'.cell? ⟨w.heap.size, 3, none⟩ = some (.int .i64 a2) ∧ w'.cell? ⟨w.heap.size, 4, none⟩ = some (.int .i64 p2) ∧ w'.cell? ⟨w.heap.size, 5, none⟩ = some (.int .i64 fl) ∧ Pk6 w' w.heap.size pr a1 p1 a2 p2 fl ∧ Below w.heap.size w w')
    (first | exact Pk6.all P1.out.drew B1.out.drew | exact Pk6.all hq1.2.2 hq1.2.1 | exact Pk6.all hq2.2.2 hq2.2.1)
    (first | (go_at_call 15; refine (own_held hl HL.out B1.out.drew P1.out.drew).mono ?_; rintro e w2 ⟨p2', k2', rfl, hq1⟩) | (go_at_call 14; refine (adm_held hl HE.out.s hq1.1 hq1.2.1 hq1.2.2).mono ?_; rintro e w3 ⟨ev, eb, rfl, hq2⟩))
  have V3 : Hid (AdmV s w3 l pr a1 p1 a2 p2 fl ou ev eb) := hq2.1
  have B3 : Hid (Below w.heap.size w w3) := hq2.2.1
  have P3 : Hid (Pk6 w3 w.heap.size pr a1 p1 a2 p2 fl) := hq2.2.2
  clear hq1 hq2 P1 B1
  go_wp2_with fail
  refine (own_any _ l _ (HL.out.below B3.out) hl).mono ?_
  rintro e w4 ⟨⟨v4, rfl, hv4⟩, hb4⟩
  obtain ⟨q4, k4, rfl, hR4⟩ := hv4.open
  have R4 : Hid (Rul w4 q4 l) := hR4
  have X4 : Hid (Below w3.heap.size w3 w4) := hb4
  clear hv4 hR4 hb4
  go_wp2_with fail
  refine (own_any _ m _ (HM.out.below (below2 B3.out X4.out)) hm).mono ?_
  rintro e w5 ⟨⟨v5, rfl, hv5⟩, hb5⟩
  obtain ⟨q5, k5, rfl, hR5⟩ := hv5.open
  have R5 : Hid (Rul w5 q5 m) := hR5
  have S5 : Hid (Rul w5 q4 l) := R4.out.below hb5
  have X5 : Hid (Below w3.heap.size w3 w5) := below2 X4.out hb5
  clear hv5 hR5 hb5 R4 X4
  go_wp2_with fail
  refine (same_any q4 q5 l m k4 k5 s _ (HE.out.s.below (below2 B3.out X5.out)) S5.out R5.out hl hm).mono ?_
  rintro e w6 ⟨⟨dv, db, rfl, hV6⟩, hb6⟩
  have V6 : Hid (SameV s w6 l m dv db) := hV6
  have X6 : Hid (Below w3.heap.size w3 w6) := below2 X5.out hb6
  clear hV6 hb6 R5 S5 X5
  go_wp2_with fail
  refine (rfault_any q0 l k0 _ (HR0.out.below (below2 B3.out X6.out)) hl).mono ?_
  rintro e w7 ⟨rfl, hb7⟩
  have V7 : Hid (AdmV s w7 l pr a1 p1 a2 p2 fl ou ev eb) := V3.out.below (below2 X6.out hb7)
  have U7 : Hid (SameV s w7 l m dv db) := V6.out.below hb7
  have B7 : Hid (Below w.heap.size w w7) := below2 B3.out (below2 X6.out hb7)
  have P7 : Hid (Pk6 w7 w.heap.size pr a1 p1 a2 p2 fl) := P3.out.below (below2 X6.out hb7)
  clear hb7 V3 V6 X6 P3 B3
  obtain ⟨fc, fa, hF⟩ : ∃ fc fa, faultOf l = (fc, fa) := ⟨_, _, rfl⟩
  have HF : Hid (faultOf l = (fc, fa)) := hF
  rw [hF]
  clear hF
  simp only
  have N8 : Hid (Cut8 w7 ((w7.alloc (.cells #[.int .i64 fc, .int .i64 fa] 45)).alloc (.cells #[.int .i64 fc, .int .i64 fa] 45)) (fc, fa) (fc, fa)) := Cut8.new w7 fc fa
  go_upto_if 51 with fail
  generalize (w7.alloc (.cells #[.int .i64 fc, .int .i64 fa] 45)).alloc (.cells #[.int .i64 fc, .int .i64 fa] 45) = w8 at *
  go_cut [] (fun wx => Cut8 w7 wx (fc, fa) (gOf l m))
  case first =>
    by_cases hz : fc = 0
    · subst hz
      have HG : Hid (gOf l m = faultOf m) := by show _ = _; unfold gOf; rw [HF.out, if_pos rfl]
      go_wp2_with fail
      refine (rfault_any q3 m k3 _ (HR3.out.below (below2 B7.out N8.out.x)) hm).mono ?_
      rintro e w9 ⟨rfl, hb9⟩
      have N9 : Hid (Cut8 w7 w9 (0, fa) (0, fa)) := N8.out.below hb9
      clear hb9
      have c0 := N9.out.g.c0
      have c1 := N9.out.g.c1
      have f0 := N9.out.g.f0
      have f1 := N9.out.g.f1
      go_wp2_with fail
      all_goals go_meet
      all_goals (rw [HG.out]; exact N9.out.putG _ _)
    · have hz1 : (fc == 0) = false := beq_eq_false_iff_ne.2 hz
      have HG : Hid (gOf l m = (fc, fa)) := by show _ = _; unfold gOf; rw [HF.out, if_neg hz]
      clear hz
      go_wp2_with fail
      all_goals go_meet
      all_goals (rw [HG.out]; exact N8.out)
  have N10 : Hid (Cut8 w7 wc (fc, fa) (gOf l m)) := hcut
  clear hcut N8
  go_wp2_with fail
  go_region_held3 (fun w' => w'.cell? ⟨w7.heap.size, 0, none⟩ = some (.int .i64 fc) ∧ w'.cell? ⟨w7.heap.size, 1, none⟩ = some (.int .i64 fa) ∧ Cut8 w7 w' (fc, fa) (gOf l m))
    (first | exact Cut8.all N10.out.drew | exact Cut8.all hr3 | exact Cut8.all hr2.2 | exact Cut8.all hr1.2)
    (first | (go_at_call 15; refine (own_c hl HL.out B7.out N10.out.drew).mono ?_; rintro e w11 ⟨p11, k11, rfl, hr1⟩) | (go_at_call 19; refine (chk_c hl HE.out.s hr1.1 B7.out hr1.2).mono ?_; rintro e w12 ⟨cv, rfl, hr2⟩) | (go_at_call 18; refine (flt_c HF.out HS.out hr2.1 B7.out hr2.2).mono ?_; rintro e w13 ⟨rfl, hr3⟩))
  have N13 : Hid (Cut8 w7 w13 (fc, fa) (gOf l m)) := hr3
  clear hr1 hr2 hr3 N10
  have c0 := N13.out.f.c0
  go_upto_if 62 with fail
  clear c0
  go_cut [] (fun wx => Cut8 w7 wx (if fc = 0 then ((pkErr pr a1 p1 a2 p2 fl : Int), -1) else (fc, fa)) (gOf l m))
  case first =>
    by_cases hz : fc = 0
    · subst hz
      have g0 := (P7.out.below N13.out.x).c0
      have g1 := (P7.out.below N13.out.x).c1
      have g2 := (P7.out.below N13.out.x).c2
      have g3 := (P7.out.below N13.out.x).c3
      have g4 := (P7.out.below N13.out.x).c4
      have g5 := (P7.out.below N13.out.x).c5
      go_wp2_with fail
      refine (perr_any pr a1 p1 a2 p2 fl _).mono ?_
      rintro e w14 ⟨rfl, hb14⟩
      have N14 : Hid (Cut8 w7 w14 (0, fa) (gOf l m)) := N13.out.below hb14
      clear hb14 g0 g1 g2 g3 g4 g5
      go_wp2_with fail
      refine (bare_any _ _).mono ?_
      rintro e w15 ⟨rfl, hb15⟩
      have N15 : Hid (Cut8 w7 w15 (0, fa) (gOf l m)) := N14.out.below hb15
      clear hb15
      have c0 := N15.out.f.c0
      have c1 := N15.out.f.c1
      have f0 := N15.out.f.f0
      have f1 := N15.out.f.f1
      go_wp2_with fail
      all_goals go_meet
      all_goals first | exact N15.out.putF _ _ | (rw [if_pos rfl]; exact N15.out.putF _ _)
    · have hz1 : (fc == 0) = false := beq_eq_false_iff_ne.2 hz
      have HZ : Hid (¬ fc = 0) := hz
      clear hz
      go_wp2_with fail
      all_goals go_meet
      all_goals (rw [if_neg HZ.out]; exact N13.out)
  obtain ⟨hc, ha, hH⟩ : ∃ hc ha, (if fc = 0 then ((pkErr pr a1 p1 a2 p2 fl : Int), (-1 : Int)) else (fc, fa)) = (hc, ha) := ⟨_, _, rfl⟩
  rw [hH] at hcut
  have HH : Hid ((if fc = 0 then ((pkErr pr a1 p1 a2 p2 fl : Int), (-1 : Int)) else (fc, fa)) = (hc, ha)) := hH
  have N16 : Hid (Cut8 w7 wc (hc, ha) (gOf l m)) := hcut
  clear hcut hH N13
  have c0 := N16.out.f.c0
  go_upto_if 68 with fail
  clear c0
  go_cut [] (fun wx => Cut8 w7 wx (hc, ha) (gOf l m))
  case first =>
    rcases V7.out with ⟨h1, h2, h3⟩ | ⟨h1, ⟨k, h2, h3⟩, h4⟩ | ⟨h1, h2, h3, h4⟩
    · have e2 : fc = 2 := by have := fault_bad h1; rw [HF.out] at this; exact this
      obtain ⟨rfl, rfl⟩ : hc = fc ∧ ha = fa := by
        have := HH.out
        rw [if_neg (by omega)] at this
        exact ⟨(Prod.mk.inj this).1.symm, (Prod.mk.inj this).2.symm⟩
      have HV : Hid (ChkV s w7 l ev) := h2
      subst h3 e2
      clear h1 h2
      have c0 := N16.out.f.c0
      have c1 := N16.out.f.c1
      go_wp2_with fail
      refine (flt_c HF.out HS.out (HV.out.below N16.out.x) B7.out N16.out).mono ?_
      rintro e w17 ⟨rfl, hb17⟩
      have N17 : Hid (Cut8 w7 w17 (2, ha) (gOf l m)) := hb17
      clear hb17 c0 c1
      go_wp2_with fail
      all_goals go_meet
      all_goals exact N17.out
    · have e2 : fc = 0 := by have := fault_ok h1; rw [HF.out] at this; exact (Prod.mk.inj this).1
      obtain ⟨rfl, rfl⟩ : hc = (k : Int) + 1 ∧ ha = -1 := by
        have := HH.out
        rw [if_pos e2, h2] at this
        refine ⟨?_, (Prod.mk.inj this).2.symm⟩
        have e := (Prod.mk.inj this).1.symm
        omega
      have hk : k < 11 := by
        have := h2
        unfold pkErr at this
        split at this
        · split at this <;> omega
        · omega
      subst h3 h4
      clear h1 h2 e2
      have c0 := N16.out.f.c0
      have c1 := N16.out.f.c1
      have hp : decide ((0 : Int) < (k : Int) + 1) = true := decide_eq_true (by omega)
      unfold errV
      go_wp2_with fail
      refine (faulted_sent k hk s _ (HS.out.below (below2 B7.out N16.out.x))).mono ?_
      rintro e w17 ⟨rfl, hb17⟩
      have N17 : Hid (Cut8 w7 w17 ((k : Int) + 1, -1) (gOf l m)) := N16.out.below hb17
      clear hb17 c0 c1
      go_wp2_with fail
      all_goals go_meet
      all_goals exact N17.out
    · have e2 : fc = 0 := by have := fault_ok h1; rw [HF.out] at this; exact (Prod.mk.inj this).1
      obtain ⟨rfl, rfl⟩ : hc = 0 ∧ ha = -1 := by
        have := HH.out
        rw [if_pos e2, h2] at this
        exact ⟨(Prod.mk.inj this).1.symm, (Prod.mk.inj this).2.symm⟩
      subst h3 h4
      clear h1 h2 e2
      have c0 := N16.out.f.c0
      have g0 := (P7.out.below N16.out.x).c0
      have g4 := (P7.out.below N16.out.x).c4
      go_wp2_with fail
      refine (aof_any q0 l k0 pr p2 ou _ (HR0.out.below (below2 B7.out N16.out.x)) hl).mono ?_
      rintro e w17 ⟨rfl, hb17⟩
      have N17 : Hid (Cut8 w7 w17 (0, -1) (gOf l m)) := N16.out.below hb17
      clear hb17 c0 g0 g4
      go_wp2_with fail
      all_goals go_meet
      all_goals exact N17.out
  have N18 : Hid (Cut8 w7 wc (hc, ha) (gOf l m)) := hcut
  clear hcut N16
  rcases U7.out with ⟨h1, h2, h3⟩ | ⟨h1, h2, h3, h4⟩ | ⟨h1, h2, h3, h4⟩
  · obtain ⟨gc, ga, hG⟩ : ∃ gc ga, faultOf l = (gc, ga) := ⟨_, _, rfl⟩
    have e2 : gc = 2 := by have := fault_bad h1; rw [hG] at this; exact this
    have e3 : gOf l m = (gc, ga) := by unfold gOf; rw [fault_bad h1, if_neg (by omega), hG]
    rw [e3] at N18
    subst h3 e2
    have HG : Hid (faultOf l = (2, ga)) := hG
    have HV : Hid (ChkV s w7 l dv) := h2
    clear h1 h2 e3 hG
    have c0 := N18.out.g.c0
    have c1 := N18.out.g.c1
    go_wp2_with fail
    refine (flt_c HG.out HS.out (HV.out.below N18.out.x) B7.out N18.out).mono ?_
    rintro e w17 ⟨rfl, hb17⟩
    have N17 : Hid (Cut8 w7 w17 (hc, ha) (2, ga)) := hb17
    clear hb17 c0 c1
    go_wp2_with fail
    go_ret
    exact ⟨rfl, below2 B7.out N17.out.x⟩
  · obtain ⟨gc, ga, hG⟩ : ∃ gc ga, faultOf m = (gc, ga) := ⟨_, _, rfl⟩
    have e2 : gc = 2 := by have := fault_bad h2; rw [hG] at this; exact this
    have e3 : gOf l m = (gc, ga) := by unfold gOf; rw [fault_ok h1, if_pos rfl, hG]
    rw [e3] at N18
    subst h4 e2
    have HG : Hid (faultOf m = (2, ga)) := hG
    have HV : Hid (ChkV s w7 m dv) := h3
    clear h1 h2 h3 e3 hG
    have c0 := N18.out.g.c0
    have c1 := N18.out.g.c1
    go_wp2_with fail
    refine (flt_c HG.out HS.out (HV.out.below N18.out.x) B7.out N18.out).mono ?_
    rintro e w17 ⟨rfl, hb17⟩
    have N17 : Hid (Cut8 w7 w17 (hc, ha) (2, ga)) := hb17
    clear hb17 c0 c1
    go_wp2_with fail
    go_ret
    exact ⟨rfl, below2 B7.out N17.out.x⟩
  · have e3 : gOf l m = (0, -1) := by unfold gOf; rw [fault_ok h1, if_pos rfl, fault_ok h2]
    rw [e3] at N18
    have HQ : Hid (refSame l m = sameL l m) := refSame_eq (chkAt_none.1 h1.2) (chkAt_none.1 h2.2)
    have H1 : Hid (RulesOk l) := h1
    have H2 : Hid (RulesOk m) := h2
    subst h3 h4
    clear h1 h2 e3
    have c0 := N18.out.g.c0
    go_wp2_with fail
    refine (sof_any _ _ l m _ (HL.out.below (below2 B7.out N18.out.x)) (HM.out.below (below2 B7.out N18.out.x)) H1.out.1 H2.out.1 (chkAt_none.1 H1.out.2) (chkAt_none.1 H2.out.2)).mono ?_
    rintro e w17 ⟨rfl, hb17⟩
    have N17 : Hid (Cut8 w7 w17 (hc, ha) (0, -1)) := N18.out.below hb17
    clear hb17 c0
    rw [HQ.out]
    go_wp2_with fail
    go_ret
    exact ⟨rfl, below2 B7.out N17.out.x⟩
end Go.Proofs.YtgmdnooknnikfaaDoor
