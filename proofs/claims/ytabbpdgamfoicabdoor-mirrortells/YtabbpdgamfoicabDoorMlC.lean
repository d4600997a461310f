/-
  The law MirrorTells: what holds in a round: both mirrors.
-/
import Derived.Test.YtabbpdgamfoicabDoorMlA
import Derived.Test.YtabbpdgamfoicabDoorMlB
import Derived.Test.YtabbpdgamfoicabDoorMiG
import Derived.Test.YtabbpdgamfoicabDoorGeC
import Derived.Deep.RegionHeld3
namespace Go.Proofs.YtabbpdgamfoicabDoor
open Go.RowKit

/-- the condition may be made stronger. -/
theorem wpAnyH_more {P : Program} {ops : Array Oper} {Q : Exit → Act → World → Prop} {md : Region.Mode} {S S' : World → Prop} (hS : ∀ w, S' w → S w) : ∀ (fuel : Nat) (listed : Array Bool) (a : Act) (w : World), wpAnyH P md ops Q S' fuel listed a w → wpAnyH P md ops Q S fuel listed a w
  | 0, _, _, _, h => h
  | fuel + 1, _, _, _, h => ⟨h.1, fun i hi => wpOp_mono (fun a' w' h' => ⟨hS w' h'.1, wpAnyH_more hS fuel _ a' w' h'.2⟩) (h.2 i hi)⟩
theorem Sents.se2 {w : World} {s : Nat → Addr} (S : Sents w s) : Se2 w s := ⟨S.c1, S.c9⟩
/-- what is told at once: a life, cells. -/
structure Td where
  lf : Int
  v : Value
  l : List Tc
instance : Inhabited Td := ⟨⟨0, .nilIface, []⟩⟩
structure TdAt (w : World) (b o : Nat) (t : Td) : Prop where
  c0 : w.cell? ⟨b, o, none⟩ = some (.int .i64 t.lf)
  c1 : w.cell? ⟨b, o + 1, none⟩ = some t.v
  s : TcS w t.v t.l
def TdsIn (w : World) (v : Value) (ts : List Td) : Prop := ∃ (p : Option Addr) (cap : Nat), v = .slice p ts.length cap ∧ ∀ (i : Nat) t, ts[i]? = some t → ∃ b o, p = some ⟨b, o, none⟩ ∧ TdAt w b (o + i * 2) t
/-- both mirrors, and where they lie. -/
structure Ml (w W : World) (b m g cap : Nat) (l1 : Int) (T1 : Tb) (l2 : Int) (T2 : Tb) : Prop where
  x : Mir W b l1 T1
  r : RMir W m g cap l2 T2
  bl : Below w.heap.size w W
  hb : w.heap.size ≤ b
  hm : w.heap.size ≤ m
  hg : w.heap.size ≤ g
  mb : m ≠ b
  gb : g ≠ b
theorem Ml.below {w W W' : World} {b m g cap : Nat} {l1 l2 : Int} {T1 T2 : Tb} (h : Ml w W b m g cap l1 T1 l2 T2) (hb : Below W.heap.size W W') : Ml w W' b m g cap l1 T1 l2 T2 :=
  ⟨h.x.below hb, h.r.below hb, t2 h.bl hb, h.hb, h.hm, h.hg, h.mb, h.gb⟩
theorem Ml.drew {w W : World} {b m g cap : Nat} {l1 l2 : Int} {T1 T2 : Tb} (h : Ml w W b m g cap l1 T1 l2 T2) : Ml w W.drew b m g cap l1 T1 l2 T2 := h.below (Below.refl _ _).drew
/-- told cells that lie apart from block b. -/
def TcB (w : World) (b : Nat) (v : Value) (l : List Tc) : Prop := ∃ p cap, v = .slice p l.length cap ∧ TcR w p l ∧ ∀ g o, p = some ⟨g, o, none⟩ → g ≠ b
theorem own_ml {w W : World} {b m g cap : Nat} {l1 l2 : Int} {T1 T2 : Tb} {v : Value} {l : List Tc} (R : TcS w v l) (hl : l.length ≤ 40) (h : Ml w W b m g cap l1 T1 l2 T2) :
    Calls Tryd.prog 35 #[v] W fun e w' => ∃ v', e = .returned v' ∧ TcB w' b v' l ∧ Ml w w' b m g cap l1 T1 l2 T2 := by
  refine (ownc_any v l W (R.below h.bl) (by omega)).mono ?_
  rintro e w' ⟨⟨v', rfl, p, cp, hv, hr, hp⟩, hb⟩
  refine ⟨v', rfl, ⟨p, cp, hv, hr, fun g o e he => ?_⟩, h.below hb⟩
  have := hp g o e
  have := h.x.lt
  omega
theorem tell_ml {w W : World} {b m g cap : Nat} {life : Int} {T : Tb} {v : Value} {l : List Tc} {s : Nat → Addr} {lf : Int} {n : Nat} {LF : Int} {TT : Tb} (S : Sents w s) (hl : l.length ≤ 40) (hN : tellE life lf l = n ∧ tellLife life lf l = LF ∧ tellT life lf T l = TT) (h : Ml w W b m g cap life T life T) (hv : TcB W b v l) :
    Calls Tryd.prog 31 #[.pointer (some ⟨b, 0, none⟩), .int .i64 lf, v] W fun e w' => e = .returned (terr s n) ∧ Ml w w' b m g cap LF TT life T := by
  obtain ⟨rfl, rfl, rfl⟩ := hN
  obtain ⟨p, cp, rfl, hr, hp⟩ := hv
  refine (tell_any b lf life T l p cp s W (S.below h.bl).se2 h.x hr hp (by omega)).mono ?_
  rintro e w' ⟨rfl, hm, hc⟩
  exact ⟨rfl, hm, h.r.chg hc h.mb h.gb, Chg.below h.bl hc h.hb, h.hb, h.hm, h.hg, h.mb, h.gb⟩
theorem rtell_ml {w W : World} {b m g cap : Nat} {life l1 : Int} {T T1 : Tb} {p : Option Addr} {k cp : Nat} {l : List Tc} {lf : Int} {n : Nat} {LF : Int} {TT : Tb} (R : TcS w (.slice p k cp) l) (hl : l.length ≤ 40) (hN : tellE life lf l = n ∧ tellLife life lf l = LF ∧ tellT life lf T l = TT) (h : Ml w W b m g cap l1 T1 life T) :
    Calls Tryd.prog 36 #[.pointer (some ⟨m, 0, none⟩), .int .i64 lf, .slice p k cp] W fun e w' => e = .returned (.int .i64 n) ∧ ∃ g' cap', Ml w w' b m g' cap' l1 T1 LF TT := by
  obtain ⟨rfl, rfl, rfl⟩ := hN
  obtain ⟨p', cp', e1, hr⟩ := R.open
  obtain ⟨rfl, rfl, rfl⟩ := Value.slice.inj e1
  have hr' := hr.below h.bl
  refine (rtell_any m g cap lf life T l p cp W h.r hr' (fun hne b' o e => ?_) (by omega)).mono ?_
  · obtain ⟨x, hx⟩ := List.exists_mem_of_ne_nil l hne
    obtain ⟨i, hi⟩ := List.getElem?_of_mem hx
    obtain ⟨b2, o2, e2, hx2⟩ := hr i x hi
    have := tlt hx2.c0
    rw [e] at e2
    injection e2 with e2
    injection e2 with e3 _
    simp only at this
    have := h.hm
    have := h.hg
    omega
  rintro e w' ⟨rfl, ⟨g', cap', hm, hg'⟩, hc⟩
  have hlt := h.x.lt
  refine ⟨rfl, g', cap', h.x.chg2 hc h.mb.symm h.gb.symm, hm, Chg2.below h.bl hc h.hm h.hg, h.hb, h.hm, ?_, h.mb, ?_⟩
  · rcases hg' with rfl | hg'
    · exact h.hg
    · have := h.bl.size; omega
  · rcases hg' with rfl | hg'
    · exact h.gb
    · omega
theorem tellE_le (a b : Int) (l : List Tc) : tellE a b l ≤ 11 := by unfold tellE; split; omega; split <;> omega
/-- the two cells of the document's mirror. -/
theorem Ml.m0 {w W : World} {b m g cap : Nat} {l1 l2 : Int} {T1 T2 : Tb} (h : Ml w W b m g cap l1 T1 l2 T2) : W.cell? ⟨m, 0, none⟩ = some (.int .i64 l2) := h.r.c0
theorem Ml.m1 {w W : World} {b m g cap : Nat} {l1 l2 : Int} {T1 T2 : Tb} (h : Ml w W b m g cap l1 T1 l2 T2) : W.cell? ⟨m, 1, none⟩ = some (.slice (some ⟨g, 0, none⟩) 32 cap) := h.r.c1
theorem rtell_mx {w W : World} {b m g cap : Nat} {life l1 : Int} {T T1 : Tb} {p : Option Addr} {k cp : Nat} {l : List Tc} {lf : Int} {n : Nat} {LF : Int} {TT : Tb} (R : TcS w (.slice p k cp) l) (hl : l.length ≤ 40) (hN : tellE life lf l = n ∧ tellLife life lf l = LF ∧ tellT life lf T l = TT) (h : Ml w W b m g cap l1 T1 life T) :
    Calls Tryd.prog 36 #[.pointer (some ⟨m, 0, none⟩), .int .i64 lf, .slice p k cp] W fun e w' => e = .returned (.int .i64 n) ∧ ∃ g' cap', w'.cell? ⟨m, 0, none⟩ = some (.int .i64 LF) ∧ w'.cell? ⟨m, 1, none⟩ = some (.slice (some ⟨g', 0, none⟩) 32 cap') ∧ Ml w w' b m g' cap' l1 T1 LF TT :=
  (rtell_ml R hl hN h).mono fun _ _ ⟨he, g', cap', h'⟩ => ⟨he, g', cap', h'.m0, h'.m1, h'⟩
theorem coded_ml {w W : World} {b m g cap : Nat} {l1 l2 : Int} {T1 T2 : Tb} {s : Nat → Addr} (S : Sents w s) (n : Nat) (hn : n ≤ 11) (h : Ml w W b m g cap l1 T1 l2 T2) :
    Calls Tryd.prog 8 #[terr s n, .int .i64 n] W fun e w' => e = .returned (.bool true) ∧ w'.cell? ⟨m, 0, none⟩ = some (.int .i64 l2) ∧ w'.cell? ⟨m, 1, none⟩ = some (.slice (some ⟨g, 0, none⟩) 32 cap) ∧ Ml w w' b m g cap l1 T1 l2 T2 :=
  (coded_terr n hn s W (S.below h.bl)).mono fun _ _ ⟨he, hb⟩ => ⟨he, (h.below hb).m0, (h.below hb).m1, h.below hb⟩
theorem life_ml {w W : World} {b m g cap : Nat} {l1 l2 : Int} {T1 T2 : Tb} (h : Ml w W b m g cap l1 T1 l2 T2) :
    Calls Tryd.prog 37 #[.pointer (some ⟨b, 0, none⟩)] W fun e w' => e = .returned (.int .i64 l1) ∧ w'.cell? ⟨m, 0, none⟩ = some (.int .i64 l2) ∧ w'.cell? ⟨m, 1, none⟩ = some (.slice (some ⟨g, 0, none⟩) 32 cap) ∧ Ml w w' b m g cap l1 T1 l2 T2 :=
  (mlife_any b l1 T1 W h.x).mono fun _ w' ⟨he, hw⟩ => by subst hw; exact ⟨he, h.m0, h.m1, h⟩
theorem cells_ml {w W : World} {b m g cap : Nat} {l1 l2 : Int} {T1 T2 : Tb} (h : Ml w W b m g cap l1 T1 l2 T2) :
    Calls Tryd.prog 32 #[.pointer (some ⟨b, 0, none⟩)] W fun e w' => ∃ Z, e = .returned (.slice (some ⟨Z, 0, none⟩) 32 32) ∧ Sl10 w' Z T1 ∧ w'.cell? ⟨m, 1, none⟩ = some (.slice (some ⟨g, 0, none⟩) 32 cap) ∧ Ml w w' b m g cap l1 T1 l2 T2 :=
  (mcells_any b l1 T1 W h.x).mono fun _ _ ⟨he, hc, hb⟩ => ⟨_, he, hc.sl, (h.below hb).m1, h.below hb⟩
theorem sameR_ml {w W : World} {b m g cap Z : Nat} {l1 l2 : Int} {T : Tb} (h : Ml w W b m g cap l1 T l2 T) (hZ : Sl10 W Z T) :
    Calls Tryd.prog 27 #[.slice (some ⟨Z, 0, none⟩) 32 32, .slice (some ⟨g, 0, none⟩) 32 cap] W fun e w' => e = .returned (.bool true) ∧ Ml w w' b m g cap l1 T l2 T :=
  (sameC_any Z g 32 cap T W hZ h.r.sl).mono fun _ _ ⟨he, hb⟩ => ⟨he, h.below hb⟩
theorem sameM_ml {w W : World} {b m g cap Z : Nat} {l1 l2 : Int} {T : Tb} (h : Ml w W b m g cap l1 T l2 T) (hZ : Sl10 W Z T) :
    Calls Tryd.prog 33 #[.slice (some ⟨Z, 0, none⟩) 32 32, .slice (some ⟨g, 0, none⟩) 32 cap] W fun e w' => e = .returned (.bool true) ∧ Ml w w' b m g cap l1 T l2 T :=
  (msame_any Z g 32 cap T W hZ h.r.sl).mono fun _ _ ⟨he, hb⟩ => ⟨he, h.below hb⟩
end Go.Proofs.YtabbpdgamfoicabDoor
