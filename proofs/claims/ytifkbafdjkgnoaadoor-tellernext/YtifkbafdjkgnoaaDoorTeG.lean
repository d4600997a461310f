/-
  A table and its teller, hand in hand; the laws' closed fact 'tells'.
-/
import Derived.Test.YtifkbafdjkgnoaaDoorTeY
import Derived.Test.YtifkbafdjkgnoaaDoorTeF
import Derived.Test.YtifkbafdjkgnoaaDoorTbN
import Derived.Test.YtifkbafdjkgnoaaDoorTbH
import Derived.Test.YtifkbafdjkgnoaaDoorTbT
namespace Go.Proofs.YtifkbafdjkgnoaaDoor
open Go.RowKit Go.Maps

theorem Tab.chg2 {b m g : Nat} {low : Int} {T : Tb} {w w' : World} (h : Tab w b low T) (k : Chg2 m g w w') (h1 : b ≠ m) (h2 : b ≠ g) : Tab w' b low T := by
  unfold Tab; rw [k.block b h.lt h1 h2]; exact h
/-- a table and its teller, made behind w. -/
structure Tl (w W : World) (b X M : Nat) (low : Int) (T : Tb) (D : To) (c n m : Nat) : Prop where
  t : Tab W b low T
  h : Tel W X b M n D c
  v : Vers T m
  bl : Below w.heap.size w W
  wb : w.heap.size ≤ b
  wx : w.heap.size ≤ X
  wm : w.heap.size ≤ M
  nx : b ≠ X
  nm : b ≠ M
theorem Tl.below {w W W' : World} {b X M : Nat} {low : Int} {T : Tb} {D : To} {c n m : Nat} (h : Tl w W b X M low T D c n m) (hb : Below W.heap.size W W') : Tl w W' b X M low T D c n m :=
  ⟨h.t.below hb, h.h.below hb, h.v, t2 h.bl hb, h.wb, h.wx, h.wm, h.nx, h.nm⟩
theorem Tl.tab {w W W' : World} {b X M : Nat} {low : Int} {T T' : Tb} {D : To} {c n m m' : Nat} (h : Tl w W b X M low T D c n m) (t : Tab W' b low T') (k : Chg b W W') (v : Vers T' m') : Tl w W' b X M low T' D c n m' :=
  ⟨t, h.h.chg k (fun e => h.nx e.symm) (fun e => h.nm e.symm), v, Chg.below h.bl k h.wb, h.wb, h.wx, h.wm, h.nx, h.nm⟩
theorem add_tl {w W : World} {b X M : Nat} {low : Int} {T : Tb} {D : To} {c n m : Nat} {s : Nat → Addr} (S : Se4 w s) (h : Tl w W b X M low T D c n m) (hm : m ≤ 1000000) (h0 : 0 ≤ low) (h1 : low ≤ 100000) (pr ia ip fa fp st un : Int) :
    Calls Tryd.prog 10 #[.pointer (some ⟨b, 0, none⟩), .int .i64 pr, .agg #[.int .i64 ia, .int .i64 ip], .agg #[.int .i64 fa, .int .i64 fp], .int .i64 st, .int .i64 un] W fun e W' => (∃ k, e = .returned (.tuple #[.int .i64 k, terr s (addT T low pr ia ip fa fp st un).2.1])) ∧ Tl w W' b X M low (addT T low pr ia ip fa fp st un).2.2 D c n (m + 1) := by
  refine (add_any b low T pr ia ip fa fp st un m s W (S.below h.bl) h.t h0 h1 h.v hm).mono ?_
  rintro e W' ⟨rfl, t, k⟩
  exact ⟨⟨_, rfl⟩, h.tab t k (h.v.add _ _ _ _ _ _ _ _)⟩
theorem set_tl {w W : World} {b X M : Nat} {low : Int} {T : Tb} {D : To} {c n m : Nat} {s : Nat → Addr} (S : Se4 w s) (h : Tl w W b X M low T D c n m) (hm : m ≤ 1000000) (k st un : Int) :
    Calls Tryd.prog 11 #[.pointer (some ⟨b, 0, none⟩), .int .i64 k, .int .i64 st, .int .i64 un] W fun e W' => e = .returned (terr s (slotE T k)) ∧ Tl w W' b X M low (setT T k st un) D c n (m + 1) := by
  refine (set_any b low T k st un m s W (S.below h.bl) h.t h.v hm).mono ?_
  rintro e W' ⟨rfl, t, q⟩
  exact ⟨rfl, h.tab t q (h.v.set _ _ _)⟩
theorem drop_tl {w W : World} {b X M : Nat} {low : Int} {T : Tb} {D : To} {c n m : Nat} {s : Nat → Addr} (S : Se4 w s) (h : Tl w W b X M low T D c n m) (hm : m ≤ 1000000) (k : Int) :
    Calls Tryd.prog 12 #[.pointer (some ⟨b, 0, none⟩), .int .i64 k] W fun e W' => e = .returned (terr s (slotE T k)) ∧ Tl w W' b X M low (dropT T k) D c n (m + 1) := by
  refine (drop_any b low T k m s W (S.below h.bl) h.t h.v hm).mono ?_
  rintro e W' ⟨rfl, t, q⟩
  exact ⟨rfl, h.tab t q (h.v.drop _)⟩
theorem lag_tl {w W : World} {b X M : Nat} {low : Int} {T : Tb} {D : To} {c n m : Nat} (h : Tl w W b X M low T D c n m) :
    Calls Tryd.prog 15 #[.pointer (some ⟨X, 0, none⟩)] W fun e W' => e = .returned (.int .i64 (newsL T D).length) ∧ Tl w W' b X M low T D c n m := by
  refine (tlag_any X b M n c low T D W h.h h.t).mono ?_
  rintro e W' ⟨rfl, hb⟩
  exact ⟨rfl, h.below hb⟩
theorem next_tl {w W : World} {b X M : Nat} {low : Int} {T : Tb} {D : To} {c n m : Nat} (h : Tl w W b X M low T D c n m) (hm : m ≤ 1000000) (hn : n ≤ 100000) :
    Calls Tryd.prog 13 #[.pointer (some ⟨X, 0, none⟩)] W fun e W' => ∃ Z L c', Nx T D c L c' ∧ e = .returned (.slice (some ⟨Z, 0, none⟩) 8 8) ∧ W.heap.size ≤ Z ∧ RowsB W' Z T L ∧ Tl w W' b X M low T (toldD T D L) c' (n + 8) m := by
  refine (tnext_any X b M n c m low T D W h.h h.t h.v hm hn).mono ?_
  rintro e W' ⟨Z, L, c', hx, rfl, hz, hr, hh, hg⟩
  exact ⟨Z, L, c', hx, rfl, hz, hr, ⟨h.t.chg2 hg h.nx h.nm, hh, h.v, Chg2.below h.bl hg h.wx h.wm, h.wb, h.wx, h.wm, h.nx, h.nm⟩⟩
theorem tl_new {w W W' : World} {b X M : Nat} {low : Int} (t : Tab W b low newT) (hb : Below w.heap.size w W) (wb : w.heap.size ≤ b) (hb2 : Below W.heap.size W W') (hx : W.heap.size ≤ X) (hm : W.heap.size ≤ M) (h : Tel W' X b M 0 (fun _ => 0) 0) : Tl w W' b X M low newT (fun _ => 0) 0 0 0 :=
  ⟨t.below hb2, h, Vers.new, t2 hb hb2, wb, Nat.le_trans hb.size hx, Nat.le_trans hb.size hm, by have := t.lt; omega, by have := t.lt; omega⟩
theorem news_none : newsL newT (fun _ => 0) = [] := by decide
theorem add_first0 : addT newT 2000 1 0 1 0 2 2 9 = (0, 0, layT newT 0 1 0 1 0 2 2000 2 9) := by rfl
theorem news_first : (newsL (layT newT 0 1 0 1 0 2 2000 2 9) (fun _ => 0)).length = 1 := by decide
set_option maxRecDepth 100000 in
set_option maxHeartbeats 4000000 in
theorem tells_any (s : Nat → Addr) (w : World) (S : Se4 w s) :
    Calls Tryd.prog 6 #[] w fun e w' => e = .returned (.bool true) ∧ Below w.heap.size w w' := by
  have HS : Hid (Se4 w s) := S
  clear S
  go_enter Tryd.func6, Tryd.ntmps6
  go_wp2_with fail
  refine (new_0 _).mono ?_
  rintro e w1 ⟨b, rfl, t1, hbb, hb1⟩
  have T1 : Hid (Tab w1 b 2000 newT) := t1
  have HBB : Hid (w.heap.size ≤ b) := hbb
  have B1 : Hid (Below w.heap.size w w1) := hb1
  clear t1 hbb hb1
  go_wp2_with fail
  refine (tnew_any b w1).mono ?_
  rintro e w2 ⟨⟨X, M, rfl, hx, hm, hh⟩, hb2⟩
  have L2 : Hid (Tl w w2 b X M 2000 newT (fun _ => 0) 0 0 0) := tl_new T1.out B1.out HBB.out hb2 hx hm hh
  clear hx hm hh hb2 T1 HBB B1
  go_wp2_with fail
  refine (lag_tl L2.out).mono ?_
  rw [news_none]
  rintro e w3 ⟨rfl, hl3⟩
  have L3 : Hid (Tl w w3 b X M 2000 newT (fun _ => 0) 0 0 0) := hl3
  clear hl3 L2
  go_wp2_with fail
  refine (add_tl HS.out L3.out (by omega) (by omega) (by omega) 1 0 1 0 2 2 9).mono ?_
  rw [add_first0]
  rintro e w4 ⟨⟨k, rfl⟩, hl4⟩
  have L4 : Hid (Tl w w4 b X M 2000 (layT newT 0 1 0 1 0 2 2000 2 9) (fun _ => 0) 0 0 1) := hl4
  clear hl4 L3
  simp only [terr]
  go_wp2_with fail
  refine (lag_tl L4.out).mono ?_
  rw [news_first]
  rintro e w5 ⟨rfl, hl5⟩
  have L5 : Hid (Tl w w5 b X M 2000 (layT newT 0 1 0 1 0 2 2000 2 9) (fun _ => 0) 0 0 1) := hl5
  clear hl5 L4
  go_wp2_with fail
  refine (next_tl L5.out (by omega) (by omega)).mono ?_
  rintro e w6 ⟨Z, L, c', hx, rfl, hz, hr, hl6⟩
  have L6 : Hid (Tl w w6 b X M 2000 (layT newT 0 1 0 1 0 2 2000 2 9) (toldD (layT newT 0 1 0 1 0 2 2000 2 9) (fun _ => 0) L) c' (0 + 8) 1) := hl6
  have HN : Hid ((newsL (layT newT 0 1 0 1 0 2 2000 2 9) (toldD (layT newT 0 1 0 1 0 2 2000 2 9) (fun _ => 0) L)).length = 0) := by
    show _ = _
    rw [hx.news, List.length_drop, news_first]
  clear hl6 L5 hx hr hz
  go_wp2_with fail
  refine (lag_tl L6.out).mono ?_
  rw [HN.out]
  rintro e w7 ⟨rfl, hl7⟩
  have L7 : Hid (Below w.heap.size w w7) := hl7.bl
  clear hl7 L6 HN
  go_wp2_with fail
  go_ret
  exact ⟨rfl, L7.out⟩
end Go.Proofs.YtifkbafdjkgnoaaDoor
