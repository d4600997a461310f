/-
  Package world's Inside and Outside.
-/
import Derived.Test.YtenonidmgpmohaaGreatDoorKk
namespace Go.Proofs.YtenonidmgpmohaaGreatDoor
open Go.RowKit

theorem in_same (x : No) (p : Pk) : (x.ins p).ru = x.ru ∧ (x.ins p).id = x.id ∧ (x.ins p).now = x.now := by
  unfold No.ins No.ou No.stp No.bg
  repeat' split
  all_goals exact ⟨rfl, rfl, rfl⟩
theorem ot_same (x : No) (p : Pk) : (x.ots p).ru = x.ru ∧ (x.ots p).id = x.id ∧ (x.ots p).now = x.now := by
  unfold No.ots No.stp
  repeat' split
  all_goals exact ⟨rfl, rfl, rfl⟩
def Wo.inE (W : Wo) (p : Pk) : Nat := match W.cho with | some (_, x) => x.inE p | none => W.chE
def Wo.inP (W : Wo) (p : Pk) : Pk := match W.cho with | some (_, x) => x.inP p | none => noP
def Wo.ins (W : Wo) (p : Pk) : Wo := match W.cho with | some (i, x) => { W with nd := setN W.nd i (some (x.ins p)) } | none => W
set_option maxRecDepth 100000 in
set_option maxHeartbeats 4000000 in
theorem inside_wd {w0 w : World} {K : WK} {x : Wo} {t : Nat} {s : Nat → Addr} (S : SeM w0 s) (h : Wd w0 w K x t) (ht : t ≤ 2700) (p : Pk) (hpp : In6 p.pr) :
    Calls Tryz.prog 25 #[.pointer (some ⟨K.wb, 0, none⟩), p.v] w fun e w' => e = .returned (.tuple #[(x.inP p).v, terr s (x.inE p)]) ∧ Wd w0 w' K (x.ins p) (t + 1) ∧ Mv K K w w' := by
  have HS : Hid (SeM w0 s) := S
  have HW : Hid (Wd w0 w K x t) := h
  have HT : Hid (t ≤ 2700) := ht
  have HPP : Hid (In6 p.pr) := hpp
  clear hpp
  clear S h ht
  go_enter Tryz.func25, Tryz.ntmps25
  go_wp2_with fail
  have P1 : Hid (PkZ ((w.alloc (.cells #[.int .i64 p.pr, .int .i64 p.a1, .int .i64 p.p1, .int .i64 p.a2, .int .i64 p.p2, .int .i64 p.fl] 36)).alloc (.cells #[.int .i64 0, .int .i64 0, .int .i64 0, .int .i64 0, .int .i64 0, .int .i64 0] 36)) w.heap.size p) := (PkZ.new w p).below (aB _ _)
  have B1 : Hid (Below w.heap.size w ((w.alloc (.cells #[.int .i64 p.pr, .int .i64 p.a1, .int .i64 p.p1, .int .i64 p.a2, .int .i64 p.p2, .int .i64 p.fl] 36)).alloc (.cells #[.int .i64 0, .int .i64 0, .int .i64 0, .int .i64 0, .int .i64 0, .int .i64 0] 36))) := t2 (aB _ _) (aB _ _)
  have Z1 : Hid (PkZ ((w.alloc (.cells #[.int .i64 p.pr, .int .i64 p.a1, .int .i64 p.p1, .int .i64 p.a2, .int .i64 p.p2, .int .i64 p.fl] 36)).alloc (.cells #[.int .i64 0, .int .i64 0, .int .i64 0, .int .i64 0, .int .i64 0, .int .i64 0] 36)) (w.heap.size + 1) noP) := by
    have := PkZ.zero (w.alloc (.cells #[.int .i64 p.pr, .int .i64 p.a1, .int .i64 p.p1, .int .i64 p.a2, .int .i64 p.p2, .int .i64 p.fl] 36))
    show PkZ _ _ _
    simpa using this
  generalize (w.alloc (.cells #[.int .i64 p.pr, .int .i64 p.a1, .int .i64 p.p1, .int .i64 p.a2, .int .i64 p.p2, .int .i64 p.fl] 36)).alloc (.cells #[.int .i64 0, .int .i64 0, .int .i64 0, .int .i64 0, .int .i64 0, .int .i64 0] 36) = w1 at *
  have LP : Hid (w.heap.size ≤ w.heap.size ∧ K.tag w.heap.size = 9 ∧ K.wb ≠ w.heap.size) := ⟨Nat.le_refl _, HW.out.al _ (Nat.le_refl _), by have := HW.out.wb.lt; omega⟩
  have LQ : Hid (w.heap.size ≤ w.heap.size + 1 ∧ K.tag (w.heap.size + 1) = 9 ∧ K.wb ≠ w.heap.size + 1) := ⟨Nat.le_succ _, HW.out.al _ (Nat.le_succ _), by have := HW.out.wb.lt; omega⟩
  generalize hPe : w.heap.size = P at P1 Z1 LP LQ ⊢
  generalize hQe : P + 1 = Q at Z1 LQ ⊢
  have HPQ : Hid (P ≠ Q) := (by omega : P ≠ Q)
  have W1 : Hid (Wd w0 w1 K x t) := HW.out.below B1.out
  refine (chosen_any HS.out W1.out).mono ?_
  rintro e w2 ⟨rfl, hb2⟩
  have B2 : Hid (Below w.heap.size w w2) := t2 B1.out hb2
  have W2 : Hid (Wd w0 w2 K x t) := W1.out.below hb2
  have P2 : Hid (PkZ w2 P p) := P1.out.below hb2
  have Z2 : Hid (PkZ w2 Q noP) := Z1.out.below hb2
  have HL0 : Hid (w0.heap.size ≤ Q ∧ w0.heap.size ≤ w.heap.size) := ⟨by have := HW.out.bl.size; omega, HW.out.bl.size⟩
  have LQW : Hid (w.heap.size ≤ Q) := (by omega : w.heap.size ≤ Q)
  clear hb2 B1 W1 P1 Z1 hPe hQe
  rcases hch : x.cho with _ | ⟨i, y⟩
  · obtain ⟨e1, he1, hv⟩ := cho_none hch
    have HE : Hid (x.inE p = e1 + 1 ∧ x.inP p = noP ∧ x.ins p = x) := by unfold Wo.inE Wo.inP Wo.ins; rw [hch]; exact ⟨he1, rfl, rfl⟩
    rw [hv]
    clear hv he1 hch
    simp only [terr]
    obtain ⟨w9, hst0, hz9, hc9⟩ := pkz_store Z2.out noP
    have hst : (Instr.storeAt 36 (.pointer (some ⟨Q, 0, none⟩)) (.agg #[.int .i64 0, .int .i64 0, .int .i64 0, .int .i64 0, .int .i64 0, .int .i64 0])).run Tryz.prog w2 = .ok () w9 := hst0
    have W9 : Hid (Wd w0 w9 K x t) := W2.out.fresh LQ.out.2.1 HL0.out.1 hc9
    have M9 : Hid (Mv K K w w9) := (Mv.of B2.out).loc hc9 LQW.out
    have Z9 : Hid (PkZ w9 Q noP) := hz9
    clear hz9 hc9 hst0
    go_wp2_with (refine wpList_store_eq rfl 36 _ _ rfl _ _ _ rfl rfl hst ?_)
    clear hst
    have q := Z9.out.b
    go_wp2_with fail
    exact bodyPost_ret (v := .tuple #[Pk.v noP, .iface 215 (.pointer (some (s e1)))]) (by simp [results, Tryz.results25, go_sem, q.c0, q.c1, q.c2, q.c3, q.c4, q.c5, Pk.v]) rfl ⟨by rw [HE.out.1, HE.out.2.1]; rfl, by rw [HE.out.2.2]; exact W9.out.mono (by omega), M9.out⟩
  · obtain ⟨hi, hy, hv⟩ := cho_some hch
    have HE : Hid (x.inE p = y.inE p ∧ x.inP p = y.inP p ∧ x.ins p = { x with nd := setN x.nd i (some (y.ins p)) }) := by unfold Wo.inE Wo.inP Wo.ins; rw [hch]; exact ⟨rfl, rfl, rfl⟩
    rw [hv]
    have hq := W2.out.sd hi
    rcases hq with ⟨k, y', m, n, hk, hy', nd, hyk, hm, hn, h0, h1, hr, hd, _⟩ | ⟨_, _, hq, _⟩ | ⟨_, hq, _⟩
    rotate_left
    · rw [hy] at hq; cases hq
    · rw [hy] at hq; cases hq
    obtain rfl : y' = y := by rw [hy] at hy'; cases hy'; rfl
    have HKQ : Hid (¬ Q ∈ k.all) := fun hm => by have := (W2.out.tg (i + 1) (by omega) Q (by rw [part_up hi hk]; exact hm)).1; have := LQ.out.2.1; omega
    have HC : Hid (∀ u, Below w2.heap.size w2 u → Calls Tryz.prog 55 #[.pointer (some ⟨k.nd, 0, none⟩), p.v] u fun e w' => e = .returned (.tuple #[(y'.inP p).v, terr s (y'.inE p)]) ∧ Wd w0 w' K (x.ins p) (t + 1) ∧ Mv K K w w' ∧ PkZ w' Q noP) := fun u hu =>
      (inside_nd HS.out (nd.below hu) (by have := HT.out; omega) h0 (by have := HT.out; omega) hr p HPP.out).mono fun e w' ⟨he, n2, c2⟩ => by
        have W3 := W2.out.below hu
        refine ⟨he, ?_, ?_, (Z2.out.below hu).chgL c2 HKQ.out⟩
        · rw [HE.out.2.2]
          have q := in_same y' p
          exact W3.onNd hi hk hy n2 c2 (by omega) (by omega) (by omega) (by rw [q.2.2]; exact h0) (by rw [q.2.2]; omega) q.1 q.2.1
        · exact ((Mv.of B2.out).then hu).trans (Mv.one W3 (i := i + 1) (by omega) c2 (by rw [part_up hi hk]; exact fun _ h => h))
    have cn := W2.out.wb.cn hi
    rw [hk] at cn
    simp only [ndV, Option.map_some] at cn
    have pb := P2.out.b
    obtain ⟨p0, p1, p2, p3, p4, p5⟩ := pb
    clear hv hch hk hy hy' nd hyk hm hn h0 h1 hr hd hi HKQ
    simp only [Pk.v] at HC
    go_wp2_with fail
    go_region_with (first
      | (go_at_call 55; refine (HC.out _ (by first | exact Below.refl _ _ | exact (Below.refl _ _).drew | exact (Below.refl _ _).drew.drew)).mono ?_; rintro e w3 ⟨rfl, hw3, hm3, hz3⟩;
          have W3 : Hid (Wd w0 w3 K (x.ins p) (t + 1)) := hw3; have M3 : Hid (Mv K K w w3) := hm3; have Z3 : Hid (PkZ w3 Q noP) := hz3; clear hw3 hm3; have z := hz3.b; have f := hz3.fr; obtain ⟨z0, z1, z2, z3, z4, z5⟩ := z; clear hz3))
    all_goals go_wp2_with fail
    all_goals
      have qz := (pkz_putW Z3.out (y'.inP p)).b
      obtain ⟨q0, q1, q2, q3, q4, q5⟩ := qz
      have W6 : Hid (Wd w0 _ K (x.ins p) (t + 1)) := W3.out.fresh LQ.out.2.1 HL0.out.1 (set6_chgW w3 Q (.int .i64 (y'.inP p).pr) (.int .i64 (y'.inP p).a1) (.int .i64 (y'.inP p).p1) (.int .i64 (y'.inP p).a2) (.int .i64 (y'.inP p).p2) (.int .i64 (y'.inP p).fl))
      have M6 : Hid (Mv K K w _) := M3.out.loc (set6_chgW w3 Q (.int .i64 (y'.inP p).pr) (.int .i64 (y'.inP p).a1) (.int .i64 (y'.inP p).p1) (.int .i64 (y'.inP p).a2) (.int .i64 (y'.inP p).p2) (.int .i64 (y'.inP p).fl)) LQW.out
      clear z0 z1 z2 z3 z4 z5 f Z3
      generalize ((((((w3.setCell ⟨Q, 0, none⟩ (.int .i64 (y'.inP p).pr)).setCell ⟨Q, 1, none⟩ (.int .i64 (y'.inP p).a1)).setCell ⟨Q, 2, none⟩ (.int .i64 (y'.inP p).p1)).setCell ⟨Q, 3, none⟩ (.int .i64 (y'.inP p).a2)).setCell ⟨Q, 4, none⟩ (.int .i64 (y'.inP p).p2)).setCell ⟨Q, 5, none⟩ (.int .i64 (y'.inP p).fl)) = w6 at *
      exact bodyPost_ret (v := .tuple #[(y'.inP p).v, terr s (y'.inE p)]) (by simp [results, Tryz.results25, go_sem, q0, q1, q2, q3, q4, q5, Pk.v]) rfl ⟨by rw [HE.out.1, HE.out.2.1], W6.out, M6.out⟩
def Wo.otE (W : Wo) (p : Pk) : Nat := match W.cho with | some (_, x) => x.otE p | none => W.chE
def Wo.otP (W : Wo) (p : Pk) : Pk := match W.cho with | some (_, x) => x.otP p | none => noP
def Wo.ots (W : Wo) (p : Pk) : Wo := match W.cho with | some (i, x) => { W with nd := setN W.nd i (some (x.ots p)) } | none => W
set_option maxRecDepth 100000 in
set_option maxHeartbeats 4000000 in
theorem outside_wd {w0 w : World} {K : WK} {x : Wo} {t : Nat} {s : Nat → Addr} (S : SeM w0 s) (h : Wd w0 w K x t) (ht : t ≤ 2700) (p : Pk) :
    Calls Tryz.prog 26 #[.pointer (some ⟨K.wb, 0, none⟩), p.v] w fun e w' => e = .returned (.tuple #[(x.otP p).v, terr s (x.otE p)]) ∧ Wd w0 w' K (x.ots p) (t + 1) ∧ Mv K K w w' := by
  have HS : Hid (SeM w0 s) := S
  have HW : Hid (Wd w0 w K x t) := h
  have HT : Hid (t ≤ 2700) := ht
  clear S h ht
  go_enter Tryz.func26, Tryz.ntmps26
  go_wp2_with fail
  have P1 : Hid (PkZ ((w.alloc (.cells #[.int .i64 p.pr, .int .i64 p.a1, .int .i64 p.p1, .int .i64 p.a2, .int .i64 p.p2, .int .i64 p.fl] 36)).alloc (.cells #[.int .i64 0, .int .i64 0, .int .i64 0, .int .i64 0, .int .i64 0, .int .i64 0] 36)) w.heap.size p) := (PkZ.new w p).below (aB _ _)
  have B1 : Hid (Below w.heap.size w ((w.alloc (.cells #[.int .i64 p.pr, .int .i64 p.a1, .int .i64 p.p1, .int .i64 p.a2, .int .i64 p.p2, .int .i64 p.fl] 36)).alloc (.cells #[.int .i64 0, .int .i64 0, .int .i64 0, .int .i64 0, .int .i64 0, .int .i64 0] 36))) := t2 (aB _ _) (aB _ _)
  have Z1 : Hid (PkZ ((w.alloc (.cells #[.int .i64 p.pr, .int .i64 p.a1, .int .i64 p.p1, .int .i64 p.a2, .int .i64 p.p2, .int .i64 p.fl] 36)).alloc (.cells #[.int .i64 0, .int .i64 0, .int .i64 0, .int .i64 0, .int .i64 0, .int .i64 0] 36)) (w.heap.size + 1) noP) := by
    have := PkZ.zero (w.alloc (.cells #[.int .i64 p.pr, .int .i64 p.a1, .int .i64 p.p1, .int .i64 p.a2, .int .i64 p.p2, .int .i64 p.fl] 36))
    show PkZ _ _ _
    simpa using this
  generalize (w.alloc (.cells #[.int .i64 p.pr, .int .i64 p.a1, .int .i64 p.p1, .int .i64 p.a2, .int .i64 p.p2, .int .i64 p.fl] 36)).alloc (.cells #[.int .i64 0, .int .i64 0, .int .i64 0, .int .i64 0, .int .i64 0, .int .i64 0] 36) = w1 at *
  have LP : Hid (w.heap.size ≤ w.heap.size ∧ K.tag w.heap.size = 9 ∧ K.wb ≠ w.heap.size) := ⟨Nat.le_refl _, HW.out.al _ (Nat.le_refl _), by have := HW.out.wb.lt; omega⟩
  have LQ : Hid (w.heap.size ≤ w.heap.size + 1 ∧ K.tag (w.heap.size + 1) = 9 ∧ K.wb ≠ w.heap.size + 1) := ⟨Nat.le_succ _, HW.out.al _ (Nat.le_succ _), by have := HW.out.wb.lt; omega⟩
  generalize hPe : w.heap.size = P at P1 Z1 LP LQ ⊢
  generalize hQe : P + 1 = Q at Z1 LQ ⊢
  have HPQ : Hid (P ≠ Q) := (by omega : P ≠ Q)
  have W1 : Hid (Wd w0 w1 K x t) := HW.out.below B1.out
  refine (chosen_any HS.out W1.out).mono ?_
  rintro e w2 ⟨rfl, hb2⟩
  have B2 : Hid (Below w.heap.size w w2) := t2 B1.out hb2
  have W2 : Hid (Wd w0 w2 K x t) := W1.out.below hb2
  have P2 : Hid (PkZ w2 P p) := P1.out.below hb2
  have Z2 : Hid (PkZ w2 Q noP) := Z1.out.below hb2
  have HL0 : Hid (w0.heap.size ≤ Q ∧ w0.heap.size ≤ w.heap.size) := ⟨by have := HW.out.bl.size; omega, HW.out.bl.size⟩
  have LQW : Hid (w.heap.size ≤ Q) := (by omega : w.heap.size ≤ Q)
  clear hb2 B1 W1 P1 Z1 hPe hQe
  rcases hch : x.cho with _ | ⟨i, y⟩
  · obtain ⟨e1, he1, hv⟩ := cho_none hch
    have HE : Hid (x.otE p = e1 + 1 ∧ x.otP p = noP ∧ x.ots p = x) := by unfold Wo.otE Wo.otP Wo.ots; rw [hch]; exact ⟨he1, rfl, rfl⟩
    rw [hv]
    clear hv he1 hch
    simp only [terr]
    obtain ⟨w9, hst0, hz9, hc9⟩ := pkz_store Z2.out noP
    have hst : (Instr.storeAt 36 (.pointer (some ⟨Q, 0, none⟩)) (.agg #[.int .i64 0, .int .i64 0, .int .i64 0, .int .i64 0, .int .i64 0, .int .i64 0])).run Tryz.prog w2 = .ok () w9 := hst0
    have W9 : Hid (Wd w0 w9 K x t) := W2.out.fresh LQ.out.2.1 HL0.out.1 hc9
    have M9 : Hid (Mv K K w w9) := (Mv.of B2.out).loc hc9 LQW.out
    have Z9 : Hid (PkZ w9 Q noP) := hz9
    clear hz9 hc9 hst0
    go_wp2_with (refine wpList_store_eq rfl 36 _ _ rfl _ _ _ rfl rfl hst ?_)
    clear hst
    have q := Z9.out.b
    go_wp2_with fail
    exact bodyPost_ret (v := .tuple #[Pk.v noP, .iface 215 (.pointer (some (s e1)))]) (by simp [results, Tryz.results26, go_sem, q.c0, q.c1, q.c2, q.c3, q.c4, q.c5, Pk.v]) rfl ⟨by rw [HE.out.1, HE.out.2.1]; rfl, by rw [HE.out.2.2]; exact W9.out.mono (by omega), M9.out⟩
  · obtain ⟨hi, hy, hv⟩ := cho_some hch
    have HE : Hid (x.otE p = y.otE p ∧ x.otP p = y.otP p ∧ x.ots p = { x with nd := setN x.nd i (some (y.ots p)) }) := by unfold Wo.otE Wo.otP Wo.ots; rw [hch]; exact ⟨rfl, rfl, rfl⟩
    rw [hv]
    have hq := W2.out.sd hi
    rcases hq with ⟨k, y', m, n, hk, hy', nd, hyk, hm, hn, h0, h1, hr, hd, _⟩ | ⟨_, _, hq, _⟩ | ⟨_, hq, _⟩
    rotate_left
    · rw [hy] at hq; cases hq
    · rw [hy] at hq; cases hq
    obtain rfl : y' = y := by rw [hy] at hy'; cases hy'; rfl
    have HKQ : Hid (¬ Q ∈ k.all) := fun hm => by have := (W2.out.tg (i + 1) (by omega) Q (by rw [part_up hi hk]; exact hm)).1; have := LQ.out.2.1; omega
    have HC : Hid (∀ u, Below w2.heap.size w2 u → Calls Tryz.prog 56 #[.pointer (some ⟨k.nd, 0, none⟩), p.v] u fun e w' => e = .returned (.tuple #[(y'.otP p).v, terr s (y'.otE p)]) ∧ Wd w0 w' K (x.ots p) (t + 1) ∧ Mv K K w w' ∧ PkZ w' Q noP) := fun u hu =>
      (outside_nd HS.out (nd.below hu) (by have := HT.out; omega) h0 (by have := HT.out; omega) p).mono fun e w' ⟨he, n2, c2⟩ => by
        have W3 := W2.out.below hu
        refine ⟨he, ?_, ?_, (Z2.out.below hu).chgL c2 HKQ.out⟩
        · rw [HE.out.2.2]
          have q := ot_same y' p
          exact W3.onNd hi hk hy n2 c2 (by omega) (by omega) (by omega) (by rw [q.2.2]; exact h0) (by rw [q.2.2]; omega) q.1 q.2.1
        · exact ((Mv.of B2.out).then hu).trans (Mv.one W3 (i := i + 1) (by omega) c2 (by rw [part_up hi hk]; exact fun _ h => h))
    have cn := W2.out.wb.cn hi
    rw [hk] at cn
    simp only [ndV, Option.map_some] at cn
    have pb := P2.out.b
    obtain ⟨p0, p1, p2, p3, p4, p5⟩ := pb
    clear hv hch hk hy hy' nd hyk hm hn h0 h1 hr hd hi HKQ
    simp only [Pk.v] at HC
    go_wp2_with fail
    go_region_with (first
      | (go_at_call 56; refine (HC.out _ (by first | exact Below.refl _ _ | exact (Below.refl _ _).drew | exact (Below.refl _ _).drew.drew)).mono ?_; rintro e w3 ⟨rfl, hw3, hm3, hz3⟩;
          have W3 : Hid (Wd w0 w3 K (x.ots p) (t + 1)) := hw3; have M3 : Hid (Mv K K w w3) := hm3; have Z3 : Hid (PkZ w3 Q noP) := hz3; clear hw3 hm3; have z := hz3.b; have f := hz3.fr; obtain ⟨z0, z1, z2, z3, z4, z5⟩ := z; clear hz3))
    all_goals go_wp2_with fail
    all_goals
      have qz := (pkz_putW Z3.out (y'.otP p)).b
      obtain ⟨q0, q1, q2, q3, q4, q5⟩ := qz
      have W6 : Hid (Wd w0 _ K (x.ots p) (t + 1)) := W3.out.fresh LQ.out.2.1 HL0.out.1 (set6_chgW w3 Q (.int .i64 (y'.otP p).pr) (.int .i64 (y'.otP p).a1) (.int .i64 (y'.otP p).p1) (.int .i64 (y'.otP p).a2) (.int .i64 (y'.otP p).p2) (.int .i64 (y'.otP p).fl))
      have M6 : Hid (Mv K K w _) := M3.out.loc (set6_chgW w3 Q (.int .i64 (y'.otP p).pr) (.int .i64 (y'.otP p).a1) (.int .i64 (y'.otP p).p1) (.int .i64 (y'.otP p).a2) (.int .i64 (y'.otP p).p2) (.int .i64 (y'.otP p).fl)) LQW.out
      clear z0 z1 z2 z3 z4 z5 f Z3
      generalize ((((((w3.setCell ⟨Q, 0, none⟩ (.int .i64 (y'.otP p).pr)).setCell ⟨Q, 1, none⟩ (.int .i64 (y'.otP p).a1)).setCell ⟨Q, 2, none⟩ (.int .i64 (y'.otP p).p1)).setCell ⟨Q, 3, none⟩ (.int .i64 (y'.otP p).a2)).setCell ⟨Q, 4, none⟩ (.int .i64 (y'.otP p).p2)).setCell ⟨Q, 5, none⟩ (.int .i64 (y'.otP p).fl)) = w6 at *
      exact bodyPost_ret (v := .tuple #[(y'.otP p).v, terr s (y'.otE p)]) (by simp [results, Tryz.results26, go_sem, q0, q1, q2, q3, q4, q5, Pk.v]) rfl ⟨by rw [HE.out.1, HE.out.2.1], W6.out, M6.out⟩
end Go.Proofs.YtenonidmgpmohaaGreatDoor
