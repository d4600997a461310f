/-
  SameCells of two rows of eight; both tellers, hand in hand.
-/
import Derived.Test.YtifkbafdjkgnoaaDoorTeY
import Derived.Test.YtifkbafdjkgnoaaDoorTnC
import Derived.Test.YtifkbafdjkgnoaaDoorTnAl
import Derived.Test.YtifkbafdjkgnoaaDoorTeG
import Derived.Test.YtifkbafdjkgnoaaDoorTrE
namespace Go.Proofs.YtifkbafdjkgnoaaDoor
open Go.RowKit Go.Maps

theorem RowL.below {w w' : World} {p : Option Addr} {T : Tb} {L : List Nat} (h : RowL w p T L) (hb : Below w.heap.size w w') : RowL w' p T L := fun j s hj => by
  obtain ⟨g, e, hc⟩ := h j s hj
  exact ⟨g, e, fun k hk => tk hb (hc k hk)⟩
theorem RowsB.rowL {w : World} {Z : Nat} {T : Tb} {L : List Nat} (h : RowsB w Z T L) : RowL w (some ⟨Z, 0, none⟩) T L := fun _ _ hj => ⟨Z, rfl, fun _ hk => h.at' hj hk⟩
set_option maxRecDepth 100000 in
set_option maxHeartbeats 4000000 in
theorem sameL_any (p r : Option Addr) (ca cb : Nat) (T : Tb) (L : List Nat) (w : World) (A : RowL w p T L) (B : RowL w r T L) (h8 : L.length = 8) :
    Calls Tryd.prog 24 #[.slice p 8 ca, .slice r 8 cb] w fun e w' => e = .returned (.bool true) ∧ Below w.heap.size w w' := by
  have HA : Hid (RowL w p T L) := A
  have HB : Hid (RowL w r T L) := B
  have H8 : Hid (L.length = 8) := h8
  clear A B h8
  go_enter Tryd.func24, Tryd.ntmps24
  go_wp2_with fail
  go_loopw [5] (fun t wr => ∃ j : Nat, j ≤ 8 ∧ t = .int .i64 j ∧ Below w.heap.size w wr) (fun t _ => 8 - (intOf t).toNat)
  case atStart => exact ⟨0, by omega, rfl, Below.refl _ _⟩
  case round =>
    obtain ⟨j, hj, rfl, hbr⟩ := hrel
    have B1 : Hid (Below w.heap.size w wr) := hbr
    clear hbr
    by_cases hlt : j < 8
    · obtain ⟨s, hs⟩ : ∃ s, L[j]? = some s := ⟨_, List.getElem?_eq_getElem (by have := H8.out; omega)⟩
      obtain ⟨g1, rfl, hc1⟩ := HA.out.below B1.out j s hs
      obtain ⟨g2, rfl, hc2⟩ := HB.out.below B1.out j s hs
      obtain ⟨c, hc⟩ : ∃ c, c = T s := ⟨_, rfl⟩
      have a0 := hc1 0 (by omega)
      have b0 := hc2 0 (by omega)
      have a1 := hc1 1 (by omega)
      have b1 := hc2 1 (by omega)
      have a2 := hc1 2 (by omega)
      have b2 := hc2 2 (by omega)
      have a3 := hc1 3 (by omega)
      have b3 := hc2 3 (by omega)
      have a4 := hc1 4 (by omega)
      have b4 := hc2 4 (by omega)
      have a5 := hc1 5 (by omega)
      have b5 := hc2 5 (by omega)
      have a6 := hc1 6 (by omega)
      have b6 := hc2 6 (by omega)
      have a7 := hc1 7 (by omega)
      have b7 := hc2 7 (by omega)
      have a8 := hc1 8 (by omega)
      have b8 := hc2 8 (by omega)
      have a9 := hc1 9 (by omega)
      have b9 := hc2 9 (by omega)
      rw [← hc] at a0 b0 a1 b1 a2 b2 a3 b3 a4 b4 a5 b5 a6 b6 a7 b7 a8 b8 a9 b9
      simp only [Ce.get, Nat.add_zero] at a0 b0 a1 b1 a2 b2 a3 b3 a4 b4 a5 b5 a6 b6 a7 b7 a8 b8 a9 b9
      have i0 : (0 : Int) ≤ (j : Int) := by omega
      have i1 : (j : Int) < 8 := by omega
      have hq : ∀ w : World, (binOp .neq 59 (.agg #[.int .i64 s, .int .i64 c.ve, .int .i64 c.pr, .int .i64 c.ia, .int .i64 c.ip, .int .i64 c.fa, .int .i64 c.fp, .int .i64 c.po, .int .i64 c.st, .int .i64 c.un]) (.agg #[.int .i64 s, .int .i64 c.ve, .int .i64 c.pr, .int .i64 c.ia, .int .i64 c.ip, .int .i64 c.fa, .int .i64 c.fp, .int .i64 c.po, .int .i64 c.st, .int .i64 c.un])).run Tryd.prog w = .ok (.bool false) w := neq_cell _ _
      have B2 : Hid (Below w.heap.size w wr.drew) := B1.out.drew
      clear hc hc1 hc2 hs HA HB H8
      go_wp2_with fail
      go_region
      all_goals
        go_wp2_with fail
        go_roundw
        case rel => exact ⟨j + 1, by omega, by go_num, B2.out⟩
        case measure => simp [intOf]; omega
    · have hlt' : ¬ (j : Int) < 8 := by omega
      go_wp2_with fail
      go_ret
      exact ⟨rfl, B1.out⟩
/-- both tables, both tellers. -/
structure Tn (w W : World) (b X M md g cap y h : Nat) (low : Int) (T : Tb) (D : To) (c n m : Nat) : Prop where
  l : Tl w W b X M low T D c n m
  t : RTab W md g cap low T
  r : RTel W y md h D c
  o : b < X ∧ b < M ∧ X < md ∧ X < g ∧ M < md ∧ M < g ∧ md < y ∧ md < h ∧ g < y ∧ g < h
theorem Tn.below {w W W' : World} {b X M md g cap y h : Nat} {low : Int} {T : Tb} {D : To} {c n m : Nat} (q : Tn w W b X M md g cap y h low T D c n m) (hb : Below W.heap.size W W') : Tn w W' b X M md g cap y h low T D c n m :=
  ⟨q.l.below hb, q.t.below hb, q.r.below hb, q.o⟩
theorem Tn.more {w W : World} {b X M md g cap y h : Nat} {low : Int} {T : Tb} {D : To} {c n m m' : Nat} (q : Tn w W b X M md g cap y h low T D c n m) (hm : m ≤ m') : Tn w W b X M md g cap y h low T D c n m' :=
  ⟨{ q.l with v := q.l.v.more hm }, q.t, q.r, q.o⟩
/-- the table has changed, the document's not yet. -/
structure Th (w W : World) (b X M md g cap y h : Nat) (low : Int) (T T' : Tb) (D : To) (c n m : Nat) : Prop where
  l : Tl w W b X M low T' D c n (m + 1)
  t : RTab W md g cap low T
  v : Vers T m
  r : RTel W y md h D c
  o : b < X ∧ b < M ∧ X < md ∧ X < g ∧ M < md ∧ M < g ∧ md < y ∧ md < h ∧ g < y ∧ g < h
theorem Tn.half {w W W' : World} {b X M md g cap y h : Nat} {low : Int} {T T' : Tb} {D : To} {c n m : Nat} (q : Tn w W b X M md g cap y h low T D c n m) (t : Tab W' b low T') (k : Chg b W W') (v : Vers T' (m + 1)) : Th w W' b X M md g cap y h low T T' D c n m :=
  have o := q.o
  ⟨q.l.tab t k v, q.t.chg k (by omega) (by omega), q.l.v, q.r.chg k (by omega) (by omega), o⟩
theorem Th.full {w W W' : World} {b X M md g cap y h : Nat} {low : Int} {T T' : Tb} {D : To} {c n m : Nat} (q : Th w W b X M md g cap y h low T T' D c n m) (t : RTab W' md g cap low T') (k : Chg g W W') : Tn w W' b X M md g cap y h low T' D c n (m + 1) :=
  have o := q.o
  ⟨⟨q.l.t.chg k (by omega), q.l.h.chg k (by omega) (by omega), q.l.v, Chg.below q.l.bl k (by have := q.l.wb; omega), q.l.wb, q.l.wx, q.l.wm, q.l.nx, q.l.nm⟩, t, q.r.chg k (by omega) (by omega), o⟩
theorem add_tn {w W : World} {b X M md g cap y h : Nat} {low : Int} {T : Tb} {D : To} {c n m : Nat} {s : Nat → Addr} (S : Se4 w s) (q : Tn w W b X M md g cap y h low T D c n m) (hm : m ≤ 1000000) (h0 : 0 ≤ low) (h1 : low ≤ 100000) (pr ia ip fa fp st un : Int) :
    Calls Tryd.prog 10 #[.pointer (some ⟨b, 0, none⟩), .int .i64 pr, .agg #[.int .i64 ia, .int .i64 ip], .agg #[.int .i64 fa, .int .i64 fp], .int .i64 st, .int .i64 un] W fun e W' => (∃ k, e = .returned (.tuple #[.int .i64 k, terr s (addT T low pr ia ip fa fp st un).2.1])) ∧ Th w W' b X M md g cap y h low T (addT T low pr ia ip fa fp st un).2.2 D c n m ∧ Chg b W W' := by
  refine (add_any b low T pr ia ip fa fp st un m s W (S.below q.l.bl) q.l.t h0 h1 q.l.v hm).mono ?_
  rintro e W' ⟨rfl, t, k⟩
  exact ⟨⟨_, rfl⟩, q.half t k (q.l.v.add _ _ _ _ _ _ _ _), k⟩
theorem addR_tn {w W : World} {b X M md g cap y h : Nat} {low : Int} {T : Tb} {D : To} {c n m : Nat} (pr ia ip fa fp st un : Int) (q : Th w W b X M md g cap y h low T (addT T low pr ia ip fa fp st un).2.2 D c n m) (hm : m ≤ 1000000) (h0 : 0 ≤ low) (h1 : low ≤ 100000) :
    Calls Tryd.prog 21 #[.pointer (some ⟨md, 0, none⟩), .int .i64 pr, .agg #[.int .i64 ia, .int .i64 ip], .agg #[.int .i64 fa, .int .i64 fp], .int .i64 st, .int .i64 un] W fun e W' => (∃ v, e = .returned v) ∧ Tn w W' b X M md g cap y h low (addT T low pr ia ip fa fp st un).2.2 D c n (m + 1) := by
  refine (addR_any md g cap low T pr ia ip fa fp st un m W q.t h0 h1 q.v hm).mono ?_
  rintro e W' ⟨rfl, t, k⟩
  exact ⟨⟨_, rfl⟩, q.full t k⟩
theorem set_tn {w W : World} {b X M md g cap y h : Nat} {low : Int} {T : Tb} {D : To} {c n m : Nat} {s : Nat → Addr} (S : Se4 w s) (q : Tn w W b X M md g cap y h low T D c n m) (hm : m ≤ 1000000) (k st un : Int) :
    Calls Tryd.prog 11 #[.pointer (some ⟨b, 0, none⟩), .int .i64 k, .int .i64 st, .int .i64 un] W fun e W' => e = .returned (terr s (slotE T k)) ∧ Th w W' b X M md g cap y h low T (setT T k st un) D c n m ∧ Chg b W W' := by
  refine (set_any b low T k st un m s W (S.below q.l.bl) q.l.t q.l.v hm).mono ?_
  rintro e W' ⟨rfl, t, d⟩
  exact ⟨rfl, q.half t d (q.l.v.set _ _ _), d⟩
theorem setR_tn {w W : World} {b X M md g cap y h : Nat} {low : Int} {T : Tb} {D : To} {c n m : Nat} (k st un : Int) (q : Th w W b X M md g cap y h low T (setT T k st un) D c n m) (hm : m ≤ 1000000) :
    Calls Tryd.prog 22 #[.pointer (some ⟨md, 0, none⟩), .int .i64 k, .int .i64 st, .int .i64 un] W fun e W' => (∃ v, e = .returned v) ∧ Tn w W' b X M md g cap y h low (setT T k st un) D c n (m + 1) := by
  refine (setR_any md g cap low T k st un m W q.t q.v hm).mono ?_
  rintro e W' ⟨rfl, t, d⟩
  exact ⟨⟨_, rfl⟩, q.full t d⟩
theorem drop_tn {w W : World} {b X M md g cap y h : Nat} {low : Int} {T : Tb} {D : To} {c n m : Nat} {s : Nat → Addr} (S : Se4 w s) (q : Tn w W b X M md g cap y h low T D c n m) (hm : m ≤ 1000000) (k : Int) :
    Calls Tryd.prog 12 #[.pointer (some ⟨b, 0, none⟩), .int .i64 k] W fun e W' => e = .returned (terr s (slotE T k)) ∧ Th w W' b X M md g cap y h low T (dropT T k) D c n m ∧ Chg b W W' := by
  refine (drop_any b low T k m s W (S.below q.l.bl) q.l.t q.l.v hm).mono ?_
  rintro e W' ⟨rfl, t, d⟩
  exact ⟨rfl, q.half t d (q.l.v.drop _), d⟩
theorem dropR_tn {w W : World} {b X M md g cap y h : Nat} {low : Int} {T : Tb} {D : To} {c n m : Nat} (k : Int) (q : Th w W b X M md g cap y h low T (dropT T k) D c n m) (hm : m ≤ 1000000) :
    Calls Tryd.prog 23 #[.pointer (some ⟨md, 0, none⟩), .int .i64 k] W fun e W' => (∃ v, e = .returned v) ∧ Tn w W' b X M md g cap y h low (dropT T k) D c n (m + 1) := by
  refine (dropR_any md g cap low T k m W q.t q.v hm).mono ?_
  rintro e W' ⟨rfl, t, d⟩
  exact ⟨⟨_, rfl⟩, q.full t d⟩
theorem lag_tn {w W : World} {b X M md g cap y h : Nat} {low : Int} {T : Tb} {D : To} {c n m : Nat} (q : Tn w W b X M md g cap y h low T D c n m) :
    Calls Tryd.prog 15 #[.pointer (some ⟨X, 0, none⟩)] W fun e W' => e = .returned (.int .i64 (newsL T D).length) ∧ Tn w W' b X M md g cap y h low T D c n m := by
  refine (tlag_any X b M n c low T D W q.l.h q.l.t).mono ?_
  rintro e W' ⟨rfl, hb⟩
  exact ⟨rfl, q.below hb⟩
theorem lagR_tn {w W : World} {b X M md g cap y h : Nat} {low : Int} {T : Tb} {D : To} {c n m : Nat} (q : Tn w W b X M md g cap y h low T D c n m) :
    Calls Tryd.prog 26 #[.pointer (some ⟨y, 0, none⟩)] W fun e W' => e = .returned (.int .i64 (newsL T D).length) ∧ Tn w W' b X M md g cap y h low T D c n m := by
  refine (rlag_any y md h g cap c low T D W q.t q.r).mono ?_
  rintro e W' ⟨rfl, hb⟩
  exact ⟨rfl, q.below hb⟩
/-- the teller has told, the document's not yet. -/
structure Tm (w W : World) (b X M md g cap y h Z : Nat) (low : Int) (T : Tb) (D : To) (L : List Nat) (c c' n m : Nat) : Prop where
  l : Tl w W b X M low T (toldD T D L) c' n m
  t : RTab W md g cap low T
  r : RTel W y md h D c
  x : Nx T D c L c'
  w : RowsB W Z T L
  z : Z ≠ y ∧ Z ≠ h
  o : b < X ∧ b < M ∧ X < md ∧ X < g ∧ M < md ∧ M < g ∧ md < y ∧ md < h ∧ g < y ∧ g < h
theorem next_tn {w W : World} {b X M md g cap y h : Nat} {low : Int} {T : Tb} {D : To} {c n m : Nat} (q : Tn w W b X M md g cap y h low T D c n m) (hm : m ≤ 1000000) (hn : n ≤ 100000) :
    Calls Tryd.prog 13 #[.pointer (some ⟨X, 0, none⟩)] W fun e W' => ∃ Z L c', e = .returned (.slice (some ⟨Z, 0, none⟩) 8 8) ∧ Tm w W' b X M md g cap y h Z low T D L c c' (n + 8) m := by
  refine (tnext_any X b M n c m low T D W q.l.h q.l.t q.l.v hm hn).mono ?_
  rintro e W' ⟨Z, L, c', hx, rfl, hz, hr, hh, hg⟩
  have o := q.o
  have e1 := tlt q.r.c0
  have e2 := q.r.a.lt
  simp only at e1
  refine ⟨Z, L, c', rfl, ⟨⟨q.l.t.chg2 hg q.l.nx q.l.nm, hh, q.l.v, Chg2.below q.l.bl hg q.l.wx q.l.wm, q.l.wb, q.l.wx, q.l.wm, q.l.nx, q.l.nm⟩, ?_, ?_, hx, hr, ⟨by omega, by omega⟩, o⟩⟩
  · have hs := q.t.sl
    have hl := hs.lt
    obtain ⟨cs, ty, f1, f2⟩ := hs
    exact ⟨hg.keeps (by simp only; omega) (by simp only; omega) q.t.c0, hg.keeps (by simp only; omega) (by simp only; omega) q.t.c1, ⟨cs, ty, by rw [hg.block g hl (by omega) (by omega)]; exact f1, f2⟩, q.t.ne⟩
  · have ha := q.r.a
    have hl := ha.lt
    obtain ⟨ty, f1⟩ := ha
    exact ⟨hg.keeps (by simp only; omega) (by simp only; omega) q.r.c0, hg.keeps (by simp only; omega) (by simp only; omega) q.r.c1, hg.keeps (by simp only; omega) (by simp only; omega) q.r.c2, (frozen_of_block (hg.block y e1 (by omega) (by omega))).trans q.r.f2, ⟨ty, by rw [hg.block h hl (by omega) (by omega)]; exact f1⟩, q.r.ne, q.r.lt⟩
theorem nextR_tn {w W : World} {b X M md g cap y h Z : Nat} {low : Int} {T : Tb} {D : To} {L : List Nat} {c c' n m : Nat} (q : Tm w W b X M md g cap y h Z low T D L c c' n m) (hc : c < 32) :
    Calls Tryd.prog 25 #[.pointer (some ⟨y, 0, none⟩)] W fun e W' => ∃ p cp, e = .returned (.slice p 8 cp) ∧ RowL W' p T L ∧ RowL W' (some ⟨Z, 0, none⟩) T L ∧ L.length = 8 ∧ Tn w W' b X M md g cap y h low T (toldD T D L) c' n m := by
  have o := q.o
  refine (rnext_any y md h g cap c low T D W q.t q.r hc ⟨by omega, by omega, by omega, by omega⟩).mono ?_
  rintro e W' ⟨L2, c2, p, cp, hx, rfl, hrow, ht, hr, hg⟩
  obtain ⟨rfl, rfl⟩ := hx.one q.x
  exact ⟨p, cp, rfl, hrow, (q.w.chg2 hg q.z.1 q.z.2).rowL, hx.len, ⟨⟨q.l.t.chg2 hg (by omega) (by omega), q.l.h.chg2 hg (by omega) (by omega) (by omega) (by omega), q.l.v, Chg2.below q.l.bl hg (by have := q.l.wx; omega) (by have := q.l.wx; omega), q.l.wb, q.l.wx, q.l.wm, q.l.nx, q.l.nm⟩, ht, hr, o⟩⟩
end Go.Proofs.YtifkbafdjkgnoaaDoor
