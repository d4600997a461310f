/-
  A table, its teller, and a mirror that hears it.
-/
import Derived.Test.YtifkbafdjkgnoaaDoorTeY
import Derived.Test.YtifkbafdjkgnoaaDoorTeG
import Derived.Test.YtifkbafdjkgnoaaDoorTeN
import Derived.Test.YtifkbafdjkgnoaaDoorTbK
import Derived.Test.YtifkbafdjkgnoaaDoorMiE
import Derived.Test.YtifkbafdjkgnoaaDoorMiS
namespace Go.Proofs.YtifkbafdjkgnoaaDoor
open Go.RowKit Go.Maps

structure Ta (w W : World) (b X M g : Nat) (low : Int) (T : Tb) (D : To) (c n m : Nat) (life : Int) (G : Tb) : Prop where
  l : Tl w W b X M low T D c n m
  z : Zer T
  mi : Mir W g life G
  wg : w.heap.size ≤ g
  gb : g ≠ b
  gx : g ≠ X
  gm : g ≠ M
theorem Ta.below {w W W' : World} {b X M g : Nat} {low : Int} {T : Tb} {D : To} {c n m : Nat} {life : Int} {G : Tb} (h : Ta w W b X M g low T D c n m life G) (hb : Below W.heap.size W W') : Ta w W' b X M g low T D c n m life G :=
  ⟨h.l.below hb, h.z, h.mi.below hb, h.wg, h.gb, h.gx, h.gm⟩
theorem Ta.more {w W : World} {b X M g : Nat} {low : Int} {T : Tb} {D : To} {c n m m' : Nat} {life : Int} {G : Tb} (h : Ta w W b X M g low T D c n m life G) (hm : m ≤ m') : Ta w W b X M g low T D c n m' life G :=
  ⟨{ h.l with v := h.l.v.more hm }, h.z, h.mi, h.wg, h.gb, h.gx, h.gm⟩
theorem add_ta {w W : World} {b X M g : Nat} {low : Int} {T : Tb} {D : To} {c n m : Nat} {life : Int} {G : Tb} {s : Nat → Addr} (S : Se4 w s) (h : Ta w W b X M g low T D c n m life G) (hm : m ≤ 1000000) (h0 : 0 ≤ low) (h1 : low ≤ 100000) (pr ia ip fa fp st un : Int) :
    Calls Tryd.prog 10 #[.pointer (some ⟨b, 0, none⟩), .int .i64 pr, .agg #[.int .i64 ia, .int .i64 ip], .agg #[.int .i64 fa, .int .i64 fp], .int .i64 st, .int .i64 un] W fun e W' => (∃ k, e = .returned (.tuple #[.int .i64 k, terr s (addT T low pr ia ip fa fp st un).2.1])) ∧ Ta w W' b X M g low (addT T low pr ia ip fa fp st un).2.2 D c n (m + 1) life G := by
  refine (add_any b low T pr ia ip fa fp st un m s W (S.below h.l.bl) h.l.t h0 h1 h.l.v hm).mono ?_
  rintro e W' ⟨rfl, t, k⟩
  exact ⟨⟨_, rfl⟩, h.l.tab t k (h.l.v.add _ _ _ _ _ _ _ _), h.z.add h.l.v _ _ _ _ _ _ _ _, h.mi.chg k h.gb, h.wg, h.gb, h.gx, h.gm⟩
theorem set_ta {w W : World} {b X M g : Nat} {low : Int} {T : Tb} {D : To} {c n m : Nat} {life : Int} {G : Tb} {s : Nat → Addr} (S : Se4 w s) (h : Ta w W b X M g low T D c n m life G) (hm : m ≤ 1000000) (k st un : Int) :
    Calls Tryd.prog 11 #[.pointer (some ⟨b, 0, none⟩), .int .i64 k, .int .i64 st, .int .i64 un] W fun e W' => e = .returned (terr s (slotE T k)) ∧ Ta w W' b X M g low (setT T k st un) D c n (m + 1) life G := by
  refine (set_any b low T k st un m s W (S.below h.l.bl) h.l.t h.l.v hm).mono ?_
  rintro e W' ⟨rfl, t, q⟩
  exact ⟨rfl, h.l.tab t q (h.l.v.set _ _ _), h.z.set h.l.v _ _ _, h.mi.chg q h.gb, h.wg, h.gb, h.gx, h.gm⟩
theorem drop_ta {w W : World} {b X M g : Nat} {low : Int} {T : Tb} {D : To} {c n m : Nat} {life : Int} {G : Tb} {s : Nat → Addr} (S : Se4 w s) (h : Ta w W b X M g low T D c n m life G) (hm : m ≤ 1000000) (k : Int) :
    Calls Tryd.prog 12 #[.pointer (some ⟨b, 0, none⟩), .int .i64 k] W fun e W' => e = .returned (terr s (slotE T k)) ∧ Ta w W' b X M g low (dropT T k) D c n (m + 1) life G := by
  refine (drop_any b low T k m s W (S.below h.l.bl) h.l.t h.l.v hm).mono ?_
  rintro e W' ⟨rfl, t, q⟩
  exact ⟨rfl, h.l.tab t q (h.l.v.drop _), h.z.drop h.l.v _, h.mi.chg q h.gb, h.wg, h.gb, h.gx, h.gm⟩
theorem lag_ta {w W : World} {b X M g : Nat} {low : Int} {T : Tb} {D : To} {c n m : Nat} {life : Int} {G : Tb} (h : Ta w W b X M g low T D c n m life G) :
    Calls Tryd.prog 15 #[.pointer (some ⟨X, 0, none⟩)] W fun e W' => e = .returned (.int .i64 (newsL T D).length) ∧ Ta w W' b X M g low T D c n m life G := by
  refine (tlag_any X b M n c low T D W h.l.h h.l.t).mono ?_
  rintro e W' ⟨rfl, hb⟩
  exact ⟨rfl, h.below hb⟩
theorem next_ta {w W : World} {b X M g : Nat} {low : Int} {T : Tb} {D : To} {c n m : Nat} {life : Int} {G : Tb} (h : Ta w W b X M g low T D c n m life G) (hm : m ≤ 1000000) (hn : n ≤ 100000) :
    Calls Tryd.prog 13 #[.pointer (some ⟨X, 0, none⟩)] W fun e W' => ∃ Z L c', Nx T D c L c' ∧ e = .returned (.slice (some ⟨Z, 0, none⟩) 8 8) ∧ (Z ≠ g ∧ Z ≠ b ∧ Z ≠ X ∧ Z ≠ M) ∧ RowsB W' Z T L ∧ Ta w W' b X M g low T (toldD T D L) c' (n + 8) m life G := by
  refine (tnext_any X b M n c m low T D W h.l.h h.l.t h.l.v hm hn).mono ?_
  rintro e W' ⟨Z, L, c', hx, rfl, hz, hr, hh, hg⟩
  have e1 := h.mi.lt
  have e2 := h.l.t.lt
  have e3 := tlt h.l.h.c0
  have e4 := h.l.h.m.lt
  simp only at e3
  exact ⟨Z, L, c', hx, rfl, ⟨by omega, by omega, by omega, by omega⟩, hr, ⟨⟨h.l.t.chg2 hg h.l.nx h.l.nm, hh, h.l.v, Chg2.below h.l.bl hg h.l.wx h.l.wm, h.l.wb, h.l.wx, h.l.wm, h.l.nx, h.l.nm⟩, h.z, by unfold Mir; rw [hg.block g h.mi.lt h.gx h.gm]; exact h.mi, h.wg, h.gb, h.gx, h.gm⟩⟩
theorem RowsB.tcR {w : World} {Z : Nat} {T : Tb} {L : List Nat} (h : RowsB w Z T L) : TcR w (some ⟨Z, 0, none⟩) (tcs T L) := fun i x hx => by
  unfold tcs at hx
  rw [List.getElem?_map] at hx
  obtain ⟨s, hs, rfl⟩ := Option.map_eq_some_iff.1 hx
  refine ⟨Z, 0, rfl, ?_⟩
  rw [Nat.zero_add]
  exact ⟨h.at' (k := 0) hs (by omega), h.at' (k := 1) hs (by omega), h.at' (k := 2) hs (by omega), h.at' (k := 3) hs (by omega), h.at' (k := 4) hs (by omega), h.at' (k := 5) hs (by omega), h.at' (k := 6) hs (by omega), h.at' (k := 7) hs (by omega), h.at' (k := 8) hs (by omega), h.at' (k := 9) hs (by omega)⟩
theorem tell_ta {w W : World} {b X M g Z : Nat} {low : Int} {T : Tb} {D : To} {c n m : Nat} {life : Int} {G : Tb} {s : Nat → Addr} {L : List Nat} (S : Se2 w s) (h : Ta w W b X M g low T D c n m life G) (hr : RowsB W Z T L) (h8 : L.length = 8) (hl : ∀ x ∈ L, x < 32) (hz : Z ≠ g ∧ Z ≠ b ∧ Z ≠ X ∧ Z ≠ M) (hi : life = 1 ∨ (life = 0 ∧ G = newT)) :
    Calls Tryd.prog 14 #[.pointer (some ⟨g, 0, none⟩), .int .i64 1, .slice (some ⟨Z, 0, none⟩) 8 8] W fun e W' => e = .returned .nilIface ∧ Ta w W' b X M g low T D c n m 1 (takeL G (tcs T L)) := by
  obtain ⟨e1, e2, e3⟩ := tell_batch (T := T) (M := G) h8 hl hi
  have := tell_any g 1 life G (tcs T L) (some ⟨Z, 0, none⟩) 8 s W (S.below h.l.bl) h.mi hr.tcR (fun q o e => by cases e; exact hz.1) (by rw [tcs_len]; omega)
  rw [tcs_len, h8, e1, e2, e3] at this
  refine this.mono ?_
  rintro e W' ⟨rfl, hm, hc⟩
  exact ⟨rfl, ⟨⟨h.l.t.chg hc (fun e => h.gb e.symm), h.l.h.chg hc (fun e => h.gx e.symm) (fun e => h.gm e.symm), h.l.v, Chg.below h.l.bl hc h.wg, h.l.wb, h.l.wx, h.l.wm, h.l.nx, h.l.nm⟩, h.z, hm, h.wg, h.gb, h.gx, h.gm⟩⟩
theorem Sl10.congr {w : World} {Z : Nat} {T U : Tb} (h : Sl10 w Z T) (e : ∀ k, k < 32 → T k = U k) : Sl10 w Z U := by
  obtain ⟨cs, ty, h1, h2⟩ := h
  exact ⟨cs, ty, h1, fun i k hi hk => by rw [← e i hi]; exact h2 i k hi hk⟩
end Go.Proofs.YtifkbafdjkgnoaaDoor
