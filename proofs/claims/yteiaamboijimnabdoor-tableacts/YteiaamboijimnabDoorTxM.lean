/-
  The law TableActs: what holds in a round: both tables, the act.
-/
import Derived.Test.YteiaamboijimnabDoorTrH
import Derived.Test.YteiaamboijimnabDoorTrE
import Derived.Test.YteiaamboijimnabDoorTbT
import Derived.Test.YteiaamboijimnabDoorTbS
import Derived.Test.YteiaamboijimnabDoorTbL
import Derived.Test.YteiaamboijimnabDoorTbQ
import Derived.Test.YteiaamboijimnabDoorTaM
import Derived.Deep.DeepCutAuto
import Derived.Deep.CutRange
namespace Go.Proofs.YteiaamboijimnabDoor
open Go.RowKit

/-- an act in a block of its own. -/
structure AcB (w : World) (A : Nat) (a : Ac) : Prop where
  c0 : w.cell? ⟨A, 0, none⟩ = some (.string a.ki)
  c1 : w.cell? ⟨A, 1, none⟩ = some (.int .i64 a.sl)
  c2 : w.cell? ⟨A, 2, none⟩ = some (.int .i64 a.f.pr)
  c3 : w.cell? ⟨A, 3, none⟩ = some (.int .i64 a.f.ia)
  c4 : w.cell? ⟨A, 4, none⟩ = some (.int .i64 a.f.ip)
  c5 : w.cell? ⟨A, 5, none⟩ = some (.int .i64 a.f.fa)
  c6 : w.cell? ⟨A, 6, none⟩ = some (.int .i64 a.f.fp)
  c7 : w.cell? ⟨A, 7, none⟩ = some (.int .i64 a.f.po)
  c8 : w.cell? ⟨A, 8, none⟩ = some (.int .i64 a.f.st)
  c9 : w.cell? ⟨A, 9, none⟩ = some (.int .i64 a.f.un)
theorem AcB.below {w w' : World} {A : Nat} {a : Ac} (h : AcB w A a) (hb : Below w.heap.size w w') : AcB w' A a :=
  ⟨tk hb h.c0, tk hb h.c1, tk hb h.c2, tk hb h.c3, tk hb h.c4, tk hb h.c5, tk hb h.c6, tk hb h.c7, tk hb h.c8, tk hb h.c9⟩
theorem AcB.chg {w w' : World} {A g : Nat} {a : Ac} (h : AcB w A a) (hb : Chg g w w') (hn : A ≠ g) : AcB w' A a :=
  ⟨hb.keeps hn h.c0, hb.keeps hn h.c1, hb.keeps hn h.c2, hb.keeps hn h.c3, hb.keeps hn h.c4, hb.keeps hn h.c5, hb.keeps hn h.c6, hb.keeps hn h.c7, hb.keeps hn h.c8, hb.keeps hn h.c9⟩
/-- where things lie. -/
structure Dst (w : World) (b m g A : Nat) : Prop where
  hb : w.heap.size ≤ b
  hg : w.heap.size ≤ g
  mb : m ≠ b
  gb : g ≠ b
  ab : A ≠ b
  ag : A ≠ g
/-- both tables, and the act. -/
structure Rn (w W : World) (b m g cap A : Nat) (low : Int) (T1 T2 : Tb) (a : Ac) : Prop where
  t : Tab W b low T1
  r : RTab W m g cap low T2
  c : AcB W A a
  b : Below w.heap.size w W
theorem Rn.below {w W W' : World} {b m g cap A : Nat} {low : Int} {T1 T2 : Tb} {a : Ac} (h : Rn w W b m g cap A low T1 T2 a) (hb : Below W.heap.size W W') : Rn w W' b m g cap A low T1 T2 a := ⟨h.t.below hb, h.r.below hb, h.c.below hb, t2 h.b hb⟩
theorem Rn.onB {w W W' : World} {b m g cap A : Nat} {low : Int} {T1 T2 T1' : Tb} {a : Ac} (h : Rn w W b m g cap A low T1 T2 a) (D : Dst w b m g A) (t : Tab W' b low T1') (k : Chg b W W') : Rn w W' b m g cap A low T1' T2 a :=
  ⟨t, h.r.chg k D.mb D.gb, h.c.chg k D.ab, Chg.below h.b k D.hb⟩
theorem Rn.onG {w W W' : World} {b m g cap A : Nat} {low : Int} {T1 T2 T2' : Tb} {a : Ac} (h : Rn w W b m g cap A low T1 T2 a) (D : Dst w b m g A) (r : RTab W' m g cap low T2') (k : Chg g W W') : Rn w W' b m g cap A low T1 T2' a :=
  ⟨h.t.chg k (fun e => D.gb e.symm), r, h.c.chg k D.ag, Chg.below h.b k D.hg⟩
theorem rnS {w W : World} {b m g cap A : Nat} {low : Int} {T1 T2 : Tb} {a : Ac} (h : Rn w W b m g cap A low T1 T2 a) : W.cell? ⟨A, 1, none⟩ = some (.int .i64 a.sl) ∧ W.cell? ⟨A, 8, none⟩ = some (.int .i64 a.f.st) ∧ W.cell? ⟨A, 9, none⟩ = some (.int .i64 a.f.un) := ⟨h.c.c1, h.c.c8, h.c.c9⟩
theorem rnD {w W : World} {b m g cap A : Nat} {low : Int} {T1 T2 : Tb} {a : Ac} (h : Rn w W b m g cap A low T1 T2 a) : W.cell? ⟨A, 1, none⟩ = some (.int .i64 a.sl) ∧ W.cell? ⟨A, 1, none⟩ = some (.int .i64 a.sl) := ⟨h.c.c1, h.c.c1⟩
theorem rnE {w W : World} {b m g cap A : Nat} {low : Int} {T1 T2 : Tb} {a : Ac} (h : Rn w W b m g cap A low T1 T2 a) : W.cell? ⟨A, 9, none⟩ = some (.int .i64 a.f.un) ∧ W.cell? ⟨A, 9, none⟩ = some (.int .i64 a.f.un) := ⟨h.c.c9, h.c.c9⟩
theorem rnF {w W : World} {b m g cap A : Nat} {low : Int} {T1 T2 : Tb} {a : Ac} (h : Rn w W b m g cap A low T1 T2 a) : W.cell? ⟨A, 2, none⟩ = some (.int .i64 a.f.pr) ∧ W.cell? ⟨A, 3, none⟩ = some (.int .i64 a.f.ia) ∧ W.cell? ⟨A, 4, none⟩ = some (.int .i64 a.f.ip) ∧ W.cell? ⟨A, 5, none⟩ = some (.int .i64 a.f.fa) ∧ W.cell? ⟨A, 6, none⟩ = some (.int .i64 a.f.fp) ∧ W.cell? ⟨A, 7, none⟩ = some (.int .i64 a.f.po) := ⟨h.c.c2, h.c.c3, h.c.c4, h.c.c5, h.c.c6, h.c.c7⟩
theorem set_rn {w W : World} {b m g cap A : Nat} {low : Int} {T1 T2 : Tb} {a : Ac} {s : Nat → Addr} {n : Nat} (S : Sents w s) (D : Dst w b m g A) (hv : Vers T1 n) (hn : n ≤ 100000) (h : Rn w W b m g cap A low T1 T2 a) (k st un : Int) :
    Calls Tryd.prog 12 #[.pointer (some ⟨b, 0, none⟩), .int .i64 k, .int .i64 st, .int .i64 un] W fun e w' => e = .returned (terr s (slotE T1 k)) ∧ Rn w w' b m g cap A low (setT T1 k st un) T2 a :=
  (set_any b low T1 k st un n s W (S.below h.b).se4 h.t hv (by omega)).mono fun _ _ ⟨he, t, c⟩ => ⟨he, h.onB D t c⟩
theorem setR_rn {w W : World} {b m g cap A : Nat} {low : Int} {T1 T2 : Tb} {a : Ac} {n : Nat} (D : Dst w b m g A) (hv : Vers T2 n) (hn : n ≤ 100000) (h : Rn w W b m g cap A low T1 T2 a) (k st un : Int) :
    Calls Tryd.prog 13 #[.pointer (some ⟨m, 0, none⟩), .int .i64 k, .int .i64 st, .int .i64 un] W fun e w' => e = .returned (.int .i64 (slotE T2 k : Nat)) ∧ Rn w w' b m g cap A low T1 (setT T2 k st un) a :=
  (setR_any m g cap low T2 k st un n W h.r hv (by omega)).mono fun _ _ ⟨he, t, c⟩ => ⟨he, h.onG D t c⟩
theorem drop_rn {w W : World} {b m g cap A : Nat} {low : Int} {T1 T2 : Tb} {a : Ac} {s : Nat → Addr} {n : Nat} (S : Sents w s) (D : Dst w b m g A) (hv : Vers T1 n) (hn : n ≤ 100000) (h : Rn w W b m g cap A low T1 T2 a) (k : Int) :
    Calls Tryd.prog 14 #[.pointer (some ⟨b, 0, none⟩), .int .i64 k] W fun e w' => e = .returned (terr s (slotE T1 k)) ∧ Rn w w' b m g cap A low (dropT T1 k) T2 a :=
  (drop_any b low T1 k n s W (S.below h.b).se4 h.t hv (by omega)).mono fun _ _ ⟨he, t, c⟩ => ⟨he, h.onB D t c⟩
theorem dropR_rn {w W : World} {b m g cap A : Nat} {low : Int} {T1 T2 : Tb} {a : Ac} {n : Nat} (D : Dst w b m g A) (hv : Vers T2 n) (hn : n ≤ 100000) (h : Rn w W b m g cap A low T1 T2 a) (k : Int) :
    Calls Tryd.prog 15 #[.pointer (some ⟨m, 0, none⟩), .int .i64 k] W fun e w' => e = .returned (.int .i64 (slotE T2 k : Nat)) ∧ Rn w w' b m g cap A low T1 (dropT T2 k) a :=
  (dropR_any m g cap low T2 k n W h.r hv (by omega)).mono fun _ _ ⟨he, t, c⟩ => ⟨he, h.onG D t c⟩
theorem slotE_le (T : Tb) (k : Int) : slotE T k ≤ 11 := by unfold slotE; split; omega; split <;> omega
theorem coded_rn {w W : World} {b m g cap A : Nat} {low : Int} {T1 T2 : Tb} {a : Ac} {s : Nat → Addr} (S : Sents w s) (h : Rn w W b m g cap A low T1 T2 a) (n : Nat) (hn : n ≤ 11) :
    Calls Tryd.prog 6 #[terr s n, .int .i64 n] W fun e w' => e = .returned (.bool true) ∧ Rn w w' b m g cap A low T1 T2 a :=
  (coded_terr n hn s W (S.below h.b)).mono fun _ _ ⟨he, hb⟩ => ⟨he, h.below hb⟩
theorem intS_chg {w w' : World} {v : Value} {xs : List Int} {b : Nat} (h : IntS w v xs) (hc : Chg b w w') (hn : ∀ g, v.ownBlock = some g → g ≠ b) : IntS w' v xs := by
  obtain ⟨p, cap, rfl, h2⟩ := h
  refine ⟨p, cap, rfl, fun j x hx => ?_⟩
  obtain ⟨g, rfl, hcell⟩ := h2 j x hx
  exact ⟨g, rfl, hc.keeps (hn g rfl) hcell⟩
theorem expire_rn {w W : World} {b m g cap A : Nat} {low : Int} {T1 T2 : Tb} {a : Ac} {n : Nat} (D : Dst w b m g A) (hv : Vers T1 n) (hn : n ≤ 100000) (h : Rn w W b m g cap A low T1 T2 a) (now : Int) :
    Calls Tryd.prog 17 #[.pointer (some ⟨b, 0, none⟩), .int .i64 now] W fun e w' => ∃ v, e = .returned v ∧ (IntS w' v (expL T1 now 32) ∧ ∀ q, v.ownBlock = some q → q ≠ g) ∧ Rn w w' b m g cap A low (expT T1 now 32) T2 a :=
  (expire_any b low T1 now n W h.t hv hn).mono fun _ _ ⟨v, he, hi, hq, t, c⟩ => ⟨v, he, ⟨hi, fun q e => by have := hq q e; have := h.r.sl.lt; omega⟩, h.onB D t c⟩
theorem expireR_rn {w W : World} {b m g cap A : Nat} {low : Int} {T1 T2 : Tb} {a : Ac} {n : Nat} (D : Dst w b m g A) (hv : Vers T2 n) (hn : n ≤ 100000) (h : Rn w W b m g cap A low T1 T2 a) {v1 : Value} {xs : List Int} (I : IntS W v1 xs ∧ ∀ q, v1.ownBlock = some q → q ≠ g) (now : Int) :
    Calls Tryd.prog 18 #[.pointer (some ⟨m, 0, none⟩), .int .i64 now] W fun e w' => ∃ v, e = .returned v ∧ (IntS w' v (expL T2 now 32) ∧ IntS w' v1 xs) ∧ Rn w w' b m g cap A low T1 (expT T2 now 32) a :=
  (expireR_any m g cap low T2 now n W h.r hv hn).mono fun _ _ ⟨v, he, hi, t, c⟩ => ⟨v, he, ⟨hi, intS_chg I.1 c I.2⟩, h.onG D t c⟩
theorem sameI_rn {w W : World} {b m g cap A : Nat} {low : Int} {T1 T2 : Tb} {a : Ac} (h : Rn w W b m g cap A low T1 T2 a) {v1 v2 : Value} {xs : List Int} (hx : xs.length ≤ 1000) (I : IntS W v2 xs ∧ IntS W v1 xs) :
    Calls Tryd.prog 16 #[v1, v2] W fun e w' => e = .returned (.bool true) ∧ Rn w w' b m g cap A low T1 T2 a :=
  (sameI_any v1 v2 xs W I.2 I.1 hx).mono fun _ _ ⟨he, hb⟩ => ⟨he, h.below hb⟩
theorem findR_rn {w W : World} {b m g cap A : Nat} {low : Int} {T1 T2 : Tb} {a : Ac} (h : Rn w W b m g cap A low T1 T2 a) (pr ia ip fa fp x : Int) (hx : foundI (fst T2 (findQ pr ia ip fa fp)) = x) :
    Calls Tryd.prog 22 #[.pointer (some ⟨m, 0, none⟩), .int .i64 pr, .agg #[.int .i64 ia, .int .i64 ip], .agg #[.int .i64 fa, .int .i64 fp]] W fun e w' => e = .returned (.int .i64 x) ∧ Rn w w' b m g cap A low T1 T2 a := by
  subst hx
  exact (findR_any m g cap low T2 pr ia ip fa fp W h.r).mono fun _ _ ⟨he, hb⟩ => ⟨he, h.below hb⟩
theorem backR_rn {w W : World} {b m g cap A : Nat} {low : Int} {T1 T2 : Tb} {a : Ac} (h : Rn w W b m g cap A low T1 T2 a) (pr po fa fp x : Int) (hx : foundI (fst T2 (backQ pr po fa fp)) = x) :
    Calls Tryd.prog 23 #[.pointer (some ⟨m, 0, none⟩), .int .i64 pr, .int .i64 po, .agg #[.int .i64 fa, .int .i64 fp]] W fun e w' => e = .returned (.int .i64 x) ∧ Rn w w' b m g cap A low T1 T2 a := by
  subst hx
  exact (backR_any m g cap low T2 pr po fa fp W h.r).mono fun _ _ ⟨he, hb⟩ => ⟨he, h.below hb⟩
theorem found_rn {W : World} (o : Option Nat) (k x : Int) (is : Bool) (hk : ((o.getD 0 : Nat) : Int) = k) (hi : o.isSome = is) (hx : foundI o = x) :
    Calls Tryd.prog 21 #[.int .i64 k, .bool is] W fun e w' => e = .returned (.int .i64 x) ∧ w' = W := by
  subst hk hi hx
  exact found_any o W
end Go.Proofs.YteiaamboijimnabDoor
