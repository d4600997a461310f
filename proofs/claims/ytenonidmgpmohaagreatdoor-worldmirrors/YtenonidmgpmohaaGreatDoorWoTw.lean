/-
  Package world's Twice.
-/
import Derived.Test.YtenonidmgpmohaaGreatDoorKp
import Derived.Test.YtenonidmgpmohaaGreatDoorKq
import Derived.Test.YtenonidmgpmohaaGreatDoorKl
namespace Go.Proofs.YtenonidmgpmohaaGreatDoor
open Go.RowKit

theorem ninsert_any (g cap k : Nat) (R : List (List Value)) (r : List Value) (cur : Array Value) (w : World) (h : RwB w g cap R cur) (hr : Five r) (hk : k ≤ R.length) (hn : R.length ≤ 200) (hc : cap ≤ maxLen) (vb : Nat) (hvb : vb ≠ g) (hv : w.heap[vb]? = some (.cells r.toArray 78 (0, 0))) :
    Calls Tryz.prog 57 #[.slice (some ⟨g, 0, none⟩) R.length cap, .int .i64 k, .slice (some ⟨vb, 0, none⟩) 1 1] w fun e w' => Insd w g R.length k R r e w' := by
  have hvc : ∀ j u, r[j]? = some u → w.cell? ⟨vb, j, none⟩ = some u := fun j u hj => by rw [cell_of_row w vb _ _ _ _ hv]; simpa using hj
  have hvl : vb < w.heap.size := by
    rcases Nat.lt_or_ge vb w.heap.size with a | a
    · exact a
    · rw [Array.getElem?_eq_none a] at hv; cases hv
  by_cases h1 : k = R.length
  · subst h1
    exact ninsert_end g cap R r cur w h hr hn hc vb hvc
  · by_cases h2 : R.length + 1 ≤ cap
    · exact ninsert_shift g cap k R r cur w h hr (by omega) h2 hc vb hvb hv
    · exact ninsert_grow g cap k R r cur w h hr (by omega) hn (by omega) vb hvc
theorem zip_insert {α β γ : Type} (f : α → β → γ) : ∀ (l : List α) (m : List β) (k : Nat) (a : α) (b : β), m.length = l.length → (List.zipWith f l m).insertIdx k (f a b) = List.zipWith f (l.insertIdx k a) (m.insertIdx k b)
  | _, _, 0, _, _, _ => by simp
  | [], [], _ + 1, _, _, _ => by simp
  | [], _ :: _, _ + 1, _, _, h => by simp at h
  | _ :: _, [], _ + 1, _, _, h => by simp at h
  | _ :: l, _ :: m, k + 1, a, b, h => by simp [zip_insert f l m k a b (by simpa using h)]
set_option maxRecDepth 100000 in
set_option maxHeartbeats 4000000 in
theorem twice_wd {w0 w : World} {K : WK} {x : Wo} {t : Nat} {s : Nat → Addr} (S : SeM w0 s) (h : Wd w0 w K x t) (n : Int) :
    Calls Tryz.prog 28 #[.pointer (some ⟨K.wb, 0, none⟩), .int .i64 n] w fun e w' => e = .returned (terr s (x.twE n)) ∧ ∃ K', Wd w0 w' K' (x.twiced n) t ∧ Mv K K' w w' := by
  have HS : Hid (SeM w0 s) := S
  have HSW : Hid (SeM w s) := S.below h.bl
  have HW : Hid (Wd w0 w K x t) := h
  clear S h
  go_enter Tryz.func28, Tryz.ntmps28
  go_wp2_with fail
  refine (flies_any HW.out.wb HW.out.fl n _ rfl).mono ?_
  rintro e w1 ⟨rfl, hw⟩
  obtain rfl := hw.symm
  clear hw
  by_cases h2 : 0 ≤ n ∧ n < x.fl.length
  · rw [decide_eq_true h2]
    obtain ⟨i, rfl⟩ : ∃ i : Nat, n = i := ⟨n.toNat, by omega⟩
    have hi : i < x.fl.length := by omega
    have HE : Hid (x.flE (i : Int) = 0) := by show x.flE (i : Int) = 0; unfold Wo.flE; rw [if_pos h2]
    obtain ⟨tt, htt⟩ : ∃ tt, x.fl[i]? = some tt := ⟨x.fl[i], List.getElem?_eq_getElem hi⟩
    obtain ⟨v, hv⟩ : ∃ v, K.cv[i]? = some v := ⟨K.cv[i]'(by rw [HW.out.fl.len]; exact hi), List.getElem?_eq_getElem _⟩
    have hn5 := HW.out.fl.ok i tt v htt hv
    rcases HW.out.fl.rows with ⟨_, e⟩ | ⟨g, c, cur, hg, R, hc⟩
    · rw [e] at hi; simp at hi
    have c7 : w.cell? ⟨K.wb, 7, none⟩ = some (.slice (some ⟨g, 0, none⟩) x.fl.length c) := by have := HW.out.wb.c 7; rw [hg] at this; exact this
    by_cases h200 : x.fl.length = 200
    · have HX : Hid (x.twE (i : Int) = 6 ∧ x.twiced (i : Int) = x) := by
        have e : x.twE (i : Int) = 6 := by unfold Wo.twE; rw [if_pos HE.out, if_pos h200]
        exact ⟨e, by unfold Wo.twiced; rw [if_neg (by rw [e]; decide)]⟩
      have g5 := HSW.out.c5
      rw [h200] at c7
      clear h2 hi htt hv hn5 hg R hc
      go_wp2_with fail
      go_ret
      exact ⟨by rw [HX.out.1]; rfl, K, by rw [HX.out.2]; exact HW.out, Mv.of (Below.refl _ _)⟩
    · have HX : Hid (x.twE (i : Int) = 0 ∧ x.twiced (i : Int) = { x with fl := x.fl.insertIdx (i + 1) tt }) := by
        have e : x.twE (i : Int) = 0 := by unfold Wo.twE; rw [if_pos HE.out, if_neg h200]
        exact ⟨e, by unfold Wo.twiced; rw [if_pos e, Int.toNat_natCast, htt]⟩
      have hle := HW.out.fl.le
      have hlen := HW.out.fl.len
      have hr := nfR_get htt hv
      have hrl : (nfR x.fl K.cv).length = x.fl.length := nfR_len hlen
      have hgt := HW.out.tg 3 (by omega) g (by simp [WK.part, hg])
      have hgw : K.wb ≠ g := fun e => by have := hgt.1; rw [← e, HW.out.wb0.1] at this; omega
      have hgl : g < w.heap.size := R.lt
      have hwl : K.wb < w.heap.size := HW.out.wb.lt
      -- the note in a block of its own
      have HINS : Hid (∀ W, Below w.heap.size w W → Calls Tryz.prog 57 #[.slice (some ⟨g, 0, none⟩) x.fl.length c, .int .i64 ((i : Int) + 1), .slice (some ⟨W.heap.size, 0, none⟩) 1 1] (W.alloc (.cells #[.int .i64 tt.fr, .int .i64 tt.li, .int .i64 tt.ep, .bool tt.cl, v] 78)) fun e w' => Insd (W.alloc (.cells #[.int .i64 tt.fr, .int .i64 tt.li, .int .i64 tt.ep, .bool tt.cl, v] 78)) g x.fl.length (i + 1) (nfR x.fl K.cv) (nfC tt v) e w') := fun W hW => by
        have hb : Below w.heap.size w (W.alloc (.cells #[.int .i64 tt.fr, .int .i64 tt.li, .int .i64 tt.ep, .bool tt.cl, v] 78)) := t2 hW (aB _ _)
        have := ninsert_any g c (i + 1) (nfR x.fl K.cv) (nfC tt v) cur _ (R.kept (hb.block g hgl)) (nfC_five hn5) (by omega) (by omega) (by unfold maxLen; omega) W.heap.size (by have := hW.size; omega) (heap_alloc_new W _)
        rw [hrl] at this
        exact_mod_cast this
      have HFIN : Hid (∀ w4 g' c' cur', Below w.heap.size w w4 ∨ Chg g w w4 → RwB w4 g' c' ((nfR x.fl K.cv).insertIdx (i + 1) (nfC tt v)) cur' → c' ≤ maxLen → (g' = g ∨ w.heap.size ≤ g') →
          w4.cell? ⟨K.wb, 7, none⟩ = some (.slice (some ⟨g, 0, none⟩) x.fl.length c) ∧ w4.frozen? ⟨K.wb, 7, none⟩ = false ∧ ∃ K', Wd w0 (w4.setCell ⟨K.wb, 7, none⟩ (.slice (some ⟨g', 0, none⟩) (x.fl.length + 1) c')) K' { x with fl := x.fl.insertIdx (i + 1) tt } t ∧ Mv K K' w (w4.setCell ⟨K.wb, 7, none⟩ (.slice (some ⟨g', 0, none⟩) (x.fl.length + 1) c'))) := fun w4 g' c' cur' hch R4 hc' hg' => by
        have hp3 : K.part 3 = [g] := by simp [WK.part, hg]
        have C4 : ChgL (K.part 3) w w4 := by
          rw [hp3]
          rcases hch with a | a
          · exact ChgL.of a
          · exact ChgL.one a (by simp)
        have hwb4 : WdB w4 K x := HW.out.wb.kept (C4.block _ hwl (by rw [hp3]; simpa using hgw))
        have hnew : (x.fl.insertIdx (i + 1) tt).length = x.fl.length + 1 := List.length_insertIdx_of_le_length (by omega) _
        have hok : ∀ (j : Nat) t2 v2, (x.fl.insertIdx (i + 1) tt)[j]? = some t2 → (K.cv.insertIdx (i + 1) v)[j]? = some v2 → NtOk w K t2 v2 := fun j t2 v2 h1 h2 => by
          rw [insertIdx_get _ _ _ (by omega)] at h1 h2
          by_cases e1 : j < i + 1
          · rw [if_pos e1] at h1 h2; exact HW.out.fl.ok j t2 v2 h1 h2
          · rw [if_neg e1] at h1 h2
            by_cases e2 : j = i + 1
            · rw [if_pos e2] at h1 h2; cases h1; cases h2; exact hn5
            · rw [if_neg e2] at h1 h2; exact HW.out.fl.ok (j - 1) t2 v2 h1 h2
        have hz : nfR (x.fl.insertIdx (i + 1) tt) (K.cv.insertIdx (i + 1) v) = (nfR x.fl K.cv).insertIdx (i + 1) (nfC tt v) := (zip_insert nfC _ _ _ _ _ hlen).symm
        have hbase : w0.heap.size ≤ g' := by
          rcases hg' with e | e
          · rw [e]; exact hgt.2
          · have := HW.out.bl.size; omega
        have own := R4.own (base := w0.heap.size) hc' hbase
        have hl2 : ((nfR x.fl K.cv).insertIdx (i + 1) (nfC tt v)).length = x.fl.length + 1 := by rw [List.length_insertIdx_of_le_length (by omega), hrl]
        rw [hl2, ← hz] at own
        have fin := HW.out.flFin C4 (l' := x.fl.insertIdx (i + 1) tt) (cv' := K.cv.insertIdx (i + 1) v) (fg' := some (g', c')) (by rw [hnew, List.length_insertIdx_of_le_length (by omega), hlen]) (by omega) hok (.inr ⟨g', c', rfl, by
          rcases hg' with e | e
          · exact .inl (by rw [hp3, e]; simp)
          · exact .inr e, by rw [hnew]; exact own⟩)
        rw [hnew] at fin
        refine ⟨?_, hwb4.fr 7, _, fin.1, fin.2⟩
        have := hwb4.c 7
        rw [hg] at this
        exact this
      have r0 : w.cell? ⟨g, i * 5, none⟩ = some (.int .i64 tt.fr) := R.cell (j := 0) hr (by omega)
      have r1 : w.cell? ⟨g, i * 5 + 1, none⟩ = some (.int .i64 tt.li) := R.cell hr (by omega)
      have r2 : w.cell? ⟨g, i * 5 + 2, none⟩ = some (.int .i64 tt.ep) := R.cell hr (by omega)
      have r3 : w.cell? ⟨g, i * 5 + 3, none⟩ = some (.bool tt.cl) := R.cell hr (by omega)
      have r4 : w.cell? ⟨g, i * 5 + 4, none⟩ = some v := R.cell hr (by omega)
      have i0 : (0 : Int) ≤ (i : Int) := by omega
      have i1 : (i : Int) < (x.fl.length : Int) := by omega
      have i2 : i < x.fl.length := hi
      have i3 : ((x.fl.length : Int) == 200) = false := by rw [beq_eq_false_iff_ne]; omega
      have i4 : IntKind.i64.wrap ((i : Int) + 1) = (i : Int) + 1 := by rw [IntKind.wrap_i64]; omega
      obtain ⟨p, cap, hvs⟩ : ∃ p cap, v = .slice p tt.cs.length cap := by obtain ⟨⟨p, cap, e, _⟩, _⟩ := hn5; exact ⟨p, cap, e⟩
      subst hvs
      clear h2 hi htt hv hn5 hg R hc hr hrl hgt hgw hlen hle h200
      go_wp2_with fail
      have d7 : w.drew.cell? ⟨K.wb, 7, none⟩ = some (.slice (some ⟨g, 0, none⟩) x.fl.length c) := c7
      have q0 : w.drew.cell? ⟨g, i * 5, none⟩ = some (.int .i64 tt.fr) := r0
      have q1 : w.drew.cell? ⟨g, i * 5 + 1, none⟩ = some (.int .i64 tt.li) := r1
      have q2 : w.drew.cell? ⟨g, i * 5 + 2, none⟩ = some (.int .i64 tt.ep) := r2
      have q3 : w.drew.cell? ⟨g, i * 5 + 3, none⟩ = some (.bool tt.cl) := r3
      have q4 : w.drew.cell? ⟨g, i * 5 + 4, none⟩ = some (.slice p tt.cs.length cap) := r4
      have e7 : (w.drew.alloc (.cells #[.int .i64 tt.fr, .int .i64 tt.li, .int .i64 tt.ep, .bool tt.cl, .slice p tt.cs.length cap] 78)).cell? ⟨K.wb, 7, none⟩ = some (.slice (some ⟨g, 0, none⟩) x.fl.length c) := tk (aB _ _) d7
      refine wp_region_any (by kernel_rfl) ?_
      try (change wpAny _ _ _ _ _ _ _ (World.drew _))
      refine wpAny_take (i := 0) (v := ?_) rfl (by kernel_rfl) (by kernel_rfl) (by kernel_rfl) (fun _ _ _ h => h) (Or.inl ⟨by rfl, ?_⟩) ?_
      rotate_left
      · intro w9; go_simp; try (with_reducible rfl)
      simp only [Act.put, List.getElem_toArray, List.getElem_cons_zero, List.setIfInBounds_toArray, List.set_cons_zero, List.set_cons_succ]
      refine wpAny_take (i := 1) (v := ?_) rfl (by kernel_rfl) (by kernel_rfl) (by kernel_rfl) (fun _ _ _ h => h) (Or.inl ⟨by rfl, ?_⟩) ?_
      rotate_left
      · intro w9; go_simp; try (with_reducible rfl)
      simp only [Act.put, List.getElem_toArray, List.getElem_cons_succ, List.getElem_cons_zero, List.setIfInBounds_toArray, List.set_cons_zero, List.set_cons_succ]
      refine wpAny_take (i := 2) (v := ?_) rfl (by kernel_rfl) (by kernel_rfl) (by kernel_rfl) (fun _ _ _ h => h) (Or.inl ⟨by rfl, ?_⟩) ?_
      rotate_left
      · intro w9; go_simp; try (with_reducible rfl)
      simp only [Act.put, List.getElem_toArray, List.getElem_cons_succ, List.getElem_cons_zero, List.setIfInBounds_toArray, List.set_cons_zero, List.set_cons_succ]
      refine wpAny_take (i := 3) (v := ?_) rfl (by kernel_rfl) (by kernel_rfl) (by kernel_rfl) (fun _ _ _ h => h) (Or.inl ⟨by rfl, ?_⟩) ?_
      rotate_left
      · intro w9; go_simp; try (with_reducible rfl)
      simp only [Act.put, List.getElem_toArray, List.getElem_cons_succ, List.getElem_cons_zero, List.setIfInBounds_toArray, List.set_cons_zero, List.set_cons_succ]
      refine wpAny_take (i := 5) (v := ?_) rfl (by kernel_rfl) (by kernel_rfl) (by kernel_rfl) (fun _ _ _ h => h) (Or.inl ⟨by rfl, ?_⟩) ?_
      rotate_left
      · intro w9; go_simp; try (with_reducible rfl)
      simp only [Act.put, List.getElem_toArray, List.getElem_cons_succ, List.getElem_cons_zero, List.setIfInBounds_toArray, List.set_cons_zero, List.set_cons_succ]
      refine wpAny_take (i := 6) (v := ?_) rfl (by kernel_rfl) (by kernel_rfl) (by kernel_rfl) (fun _ _ _ h => h) (Or.inl ⟨by rfl, ?_⟩) ?_
      rotate_left
      · intro w9; go_simp; try (with_reducible rfl)
      simp only [Act.put, List.getElem_toArray, List.getElem_cons_succ, List.getElem_cons_zero, List.setIfInBounds_toArray, List.set_cons_zero, List.set_cons_succ]
      refine wpAny_take (i := 7) (v := ?_) rfl (by kernel_rfl) (by kernel_rfl) (by kernel_rfl) (fun _ _ _ h => h) (Or.inl ⟨by rfl, ?_⟩) ?_
      rotate_left
      · intro w9; go_simp; try (with_reducible rfl)
      simp only [Act.put, List.getElem_toArray, List.getElem_cons_succ, List.getElem_cons_zero, List.setIfInBounds_toArray, List.set_cons_zero, List.set_cons_succ]
      refine wpAny_take (i := 8) (v := ?_) rfl (by kernel_rfl) (by kernel_rfl) (by kernel_rfl) (fun _ _ _ h => h) (Or.inl ⟨by rfl, ?_⟩) ?_
      rotate_left
      · intro w9; go_simp; try (with_reducible rfl)
      simp only [Act.put, List.getElem_toArray, List.getElem_cons_succ, List.getElem_cons_zero, List.setIfInBounds_toArray, List.set_cons_zero, List.set_cons_succ]
      refine wpAny_take (i := 9) (v := ?_) rfl (by kernel_rfl) (by kernel_rfl) (by kernel_rfl) (fun _ _ _ h => h) (Or.inl ⟨by rfl, ?_⟩) ?_
      rotate_left
      · intro w9; go_simp; try (with_reducible rfl)
      simp only [Act.put, List.getElem_toArray, List.getElem_cons_succ, List.getElem_cons_zero, List.setIfInBounds_toArray, List.set_cons_zero, List.set_cons_succ]
      refine wpAny_take (i := 11) (v := ?_) rfl (by kernel_rfl) (by kernel_rfl) (by kernel_rfl) (fun _ _ _ h => h) (Or.inl ⟨by rfl, ?_⟩) ?_
      rotate_left
      · intro w9; go_simp; try (with_reducible rfl)
      simp only [Act.put, List.getElem_toArray, List.getElem_cons_succ, List.getElem_cons_zero, List.setIfInBounds_toArray, List.set_cons_zero, List.set_cons_succ]
      refine wpAny_ready (rs := [4, 10]) (by kernel_rfl) (by simp) ?_
      refine AllReady.cons rfl (fun K5 hK => ?_) ?_
      · go_simp
        refine hK _ _ ?_
        clear hK K5
        try simp only [Act.put, List.setIfInBounds_toArray, List.set_cons_zero, List.set_cons_succ]
        refine wpAny_ready (rs := [10]) (by kernel_rfl) (by simp) ?_
        refine AllReady.cons rfl (fun K5 hK => ?_) AllReady.nil
        go_simp
        refine hK _ _ ?_
        clear hK K5
        try simp only [Act.put, List.setIfInBounds_toArray, List.set_cons_zero, List.set_cons_succ]
        refine wpAny_take (i := 12) (v := ?_) rfl (by kernel_rfl) (by kernel_rfl) (by kernel_rfl) (fun _ _ _ h => h) (Or.inl ⟨by rfl, ?_⟩) ?_
        rotate_left
        · intro w9; go_simp; try (with_reducible rfl)
        simp only [Act.put, List.getElem_toArray, List.getElem_cons_succ, List.getElem_cons_zero, List.setIfInBounds_toArray, List.set_cons_zero, List.set_cons_succ]
        refine wpAny_ready (rs := [13]) (by kernel_rfl) (by simp) ?_
        refine AllReady.cons rfl (fun K5 hK => ?_) AllReady.nil
        go_simp
        refine hK _ _ ?_
        clear hK K5
        try simp only [Act.put, List.setIfInBounds_toArray, List.set_cons_zero, List.set_cons_succ]
        refine wpAny_ready (rs := [14]) (by kernel_rfl) (by simp) ?_
        refine AllReady.cons rfl (fun K5 hK => ?_) AllReady.nil
        go_simp
        refine hK _ _ ?_
        clear hK K5
        try simp only [Act.put, List.setIfInBounds_toArray, List.set_cons_zero, List.set_cons_succ]
        refine wpAny_ready (rs := [15]) (by kernel_rfl) (by simp) ?_
        refine AllReady.cons rfl (fun K5 hK => ?_) AllReady.nil
        go_simp
        refine (HINS.out w.drew (Below.refl _ _).drew).mono ?_
        rintro e w4 ⟨g', c', cur', rfl, hR4, hc4, hch4, hg4⟩
        go_wp2_with fail
        have FIN := HFIN.out w4 g' c' cur' (.inr ((Chg.of (t2 (Below.refl _ _).drew (aB _ _))).trans hch4)) hR4 hc4 (by rcases hg4 with e | e; exact .inl e; exact .inr (Nat.le_trans (t2 (Below.refl _ _).drew (aB _ _)).size e))
        obtain ⟨f7, z7, K', wd', mv'⟩ := FIN
        have HF : Hid (Wd w0 (w4.setCell ⟨K.wb, 7, none⟩ (.slice (some ⟨g', 0, none⟩) (x.fl.length + 1) c')) K' { x with fl := x.fl.insertIdx (i + 1) tt } t ∧ Mv K K' w (w4.setCell ⟨K.wb, 7, none⟩ (.slice (some ⟨g', 0, none⟩) (x.fl.length + 1) c'))) := ⟨wd', mv'⟩
        clear wd' mv' hR4 hc4 hch4 hg4
        try simp only [Act.put, List.setIfInBounds_toArray]
        refine wpAny_take (i := 16) (v := ?_) rfl (by kernel_rfl) (by kernel_rfl) (by kernel_rfl) (fun _ _ _ h => h) (Or.inl ⟨by rfl, ?_⟩) ?_
        rotate_left
        · intro w9; go_simp; try (with_reducible rfl)
        simp only [Act.put, List.getElem_toArray, List.getElem_cons_succ, List.getElem_cons_zero, List.setIfInBounds_toArray, List.set_cons_zero, List.set_cons_succ]
        refine wpAny_take (i := 17) (v := ?_) rfl (by kernel_rfl) (by kernel_rfl) (by kernel_rfl) (fun _ _ _ h => h) (Or.inl ⟨by rfl, ?_⟩) ?_
        rotate_left
        · intro w9; go_simp; try (with_reducible rfl)
        simp only [Act.put, List.getElem_toArray, List.getElem_cons_succ, List.getElem_cons_zero, List.setIfInBounds_toArray, List.set_cons_zero, List.set_cons_succ]
        refine wpAny_ready (rs := [18]) (by kernel_rfl) (by simp) ?_
        refine AllReady.cons rfl (fun K5 hK => ?_) AllReady.nil
        go_simp
        refine hK _ _ ?_
        clear hK K5
        try simp only [Act.put, List.setIfInBounds_toArray]
        refine wpAny_done (by kernel_rfl) ?_ _
        go_wp2_with fail
        go_ret
        exact ⟨by rw [HX.out.1]; rfl, _, by rw [HX.out.2]; exact HF.out.1, HF.out.2⟩
      refine AllReady.cons rfl (fun K5 hK => ?_) AllReady.nil
      go_simp
      refine hK _ _ ?_
      clear hK K5
      try simp only [Act.put, List.setIfInBounds_toArray, List.set_cons_zero, List.set_cons_succ]
      refine wpAny_take (i := 12) (v := ?_) rfl (by kernel_rfl) (by kernel_rfl) (by kernel_rfl) (fun _ _ _ h => h) (Or.inl ⟨by rfl, ?_⟩) ?_
      rotate_left
      · intro w9; go_simp; try (with_reducible rfl)
      simp only [Act.put, List.getElem_toArray, List.getElem_cons_succ, List.getElem_cons_zero, List.setIfInBounds_toArray, List.set_cons_zero, List.set_cons_succ]
      refine wpAny_ready (rs := [4, 13]) (by kernel_rfl) (by simp) ?_
      refine AllReady.cons rfl (fun K5 hK => ?_) ?_
      · go_simp
        refine hK _ _ ?_
        clear hK K5
        try simp only [Act.put, List.setIfInBounds_toArray, List.set_cons_zero, List.set_cons_succ]
        refine wpAny_ready (rs := [13]) (by kernel_rfl) (by simp) ?_
        refine AllReady.cons rfl (fun K5 hK => ?_) AllReady.nil
        go_simp
        refine hK _ _ ?_
        clear hK K5
        try simp only [Act.put, List.setIfInBounds_toArray, List.set_cons_zero, List.set_cons_succ]
        refine wpAny_ready (rs := [14]) (by kernel_rfl) (by simp) ?_
        refine AllReady.cons rfl (fun K5 hK => ?_) AllReady.nil
        go_simp
        refine hK _ _ ?_
        clear hK K5
        try simp only [Act.put, List.setIfInBounds_toArray, List.set_cons_zero, List.set_cons_succ]
        refine wpAny_ready (rs := [15]) (by kernel_rfl) (by simp) ?_
        refine AllReady.cons rfl (fun K5 hK => ?_) AllReady.nil
        go_simp
        refine (HINS.out w.drew (Below.refl _ _).drew).mono ?_
        rintro e w4 ⟨g', c', cur', rfl, hR4, hc4, hch4, hg4⟩
        go_wp2_with fail
        have FIN := HFIN.out w4 g' c' cur' (.inr ((Chg.of (t2 (Below.refl _ _).drew (aB _ _))).trans hch4)) hR4 hc4 (by rcases hg4 with e | e; exact .inl e; exact .inr (Nat.le_trans (t2 (Below.refl _ _).drew (aB _ _)).size e))
        obtain ⟨f7, z7, K', wd', mv'⟩ := FIN
        have HF : Hid (Wd w0 (w4.setCell ⟨K.wb, 7, none⟩ (.slice (some ⟨g', 0, none⟩) (x.fl.length + 1) c')) K' { x with fl := x.fl.insertIdx (i + 1) tt } t ∧ Mv K K' w (w4.setCell ⟨K.wb, 7, none⟩ (.slice (some ⟨g', 0, none⟩) (x.fl.length + 1) c'))) := ⟨wd', mv'⟩
        clear wd' mv' hR4 hc4 hch4 hg4
        try simp only [Act.put, List.setIfInBounds_toArray]
        refine wpAny_take (i := 16) (v := ?_) rfl (by kernel_rfl) (by kernel_rfl) (by kernel_rfl) (fun _ _ _ h => h) (Or.inl ⟨by rfl, ?_⟩) ?_
        rotate_left
        · intro w9; go_simp; try (with_reducible rfl)
        simp only [Act.put, List.getElem_toArray, List.getElem_cons_succ, List.getElem_cons_zero, List.setIfInBounds_toArray, List.set_cons_zero, List.set_cons_succ]
        refine wpAny_take (i := 17) (v := ?_) rfl (by kernel_rfl) (by kernel_rfl) (by kernel_rfl) (fun _ _ _ h => h) (Or.inl ⟨by rfl, ?_⟩) ?_
        rotate_left
        · intro w9; go_simp; try (with_reducible rfl)
        simp only [Act.put, List.getElem_toArray, List.getElem_cons_succ, List.getElem_cons_zero, List.setIfInBounds_toArray, List.set_cons_zero, List.set_cons_succ]
        refine wpAny_ready (rs := [18]) (by kernel_rfl) (by simp) ?_
        refine AllReady.cons rfl (fun K5 hK => ?_) AllReady.nil
        go_simp
        refine hK _ _ ?_
        clear hK K5
        try simp only [Act.put, List.setIfInBounds_toArray]
        refine wpAny_done (by kernel_rfl) ?_ _
        go_wp2_with fail
        go_ret
        exact ⟨by rw [HX.out.1]; rfl, _, by rw [HX.out.2]; exact HF.out.1, HF.out.2⟩
      refine AllReady.cons rfl (fun K5 hK => ?_) AllReady.nil
      go_simp
      refine hK _ _ ?_
      clear hK K5
      try simp only [Act.put, List.setIfInBounds_toArray, List.set_cons_zero, List.set_cons_succ]
      refine wpAny_ready (rs := [4, 14]) (by kernel_rfl) (by simp) ?_
      refine AllReady.cons rfl (fun K5 hK => ?_) ?_
      · go_simp
        refine hK _ _ ?_
        clear hK K5
        try simp only [Act.put, List.setIfInBounds_toArray, List.set_cons_zero, List.set_cons_succ]
        refine wpAny_ready (rs := [14]) (by kernel_rfl) (by simp) ?_
        refine AllReady.cons rfl (fun K5 hK => ?_) AllReady.nil
        go_simp
        refine hK _ _ ?_
        clear hK K5
        try simp only [Act.put, List.setIfInBounds_toArray, List.set_cons_zero, List.set_cons_succ]
        refine wpAny_ready (rs := [15]) (by kernel_rfl) (by simp) ?_
        refine AllReady.cons rfl (fun K5 hK => ?_) AllReady.nil
        go_simp
        refine (HINS.out w.drew (Below.refl _ _).drew).mono ?_
        rintro e w4 ⟨g', c', cur', rfl, hR4, hc4, hch4, hg4⟩
        go_wp2_with fail
        have FIN := HFIN.out w4 g' c' cur' (.inr ((Chg.of (t2 (Below.refl _ _).drew (aB _ _))).trans hch4)) hR4 hc4 (by rcases hg4 with e | e; exact .inl e; exact .inr (Nat.le_trans (t2 (Below.refl _ _).drew (aB _ _)).size e))
        obtain ⟨f7, z7, K', wd', mv'⟩ := FIN
        have HF : Hid (Wd w0 (w4.setCell ⟨K.wb, 7, none⟩ (.slice (some ⟨g', 0, none⟩) (x.fl.length + 1) c')) K' { x with fl := x.fl.insertIdx (i + 1) tt } t ∧ Mv K K' w (w4.setCell ⟨K.wb, 7, none⟩ (.slice (some ⟨g', 0, none⟩) (x.fl.length + 1) c'))) := ⟨wd', mv'⟩
        clear wd' mv' hR4 hc4 hch4 hg4
        try simp only [Act.put, List.setIfInBounds_toArray]
        refine wpAny_take (i := 16) (v := ?_) rfl (by kernel_rfl) (by kernel_rfl) (by kernel_rfl) (fun _ _ _ h => h) (Or.inl ⟨by rfl, ?_⟩) ?_
        rotate_left
        · intro w9; go_simp; try (with_reducible rfl)
        simp only [Act.put, List.getElem_toArray, List.getElem_cons_succ, List.getElem_cons_zero, List.setIfInBounds_toArray, List.set_cons_zero, List.set_cons_succ]
        refine wpAny_take (i := 17) (v := ?_) rfl (by kernel_rfl) (by kernel_rfl) (by kernel_rfl) (fun _ _ _ h => h) (Or.inl ⟨by rfl, ?_⟩) ?_
        rotate_left
        · intro w9; go_simp; try (with_reducible rfl)
        simp only [Act.put, List.getElem_toArray, List.getElem_cons_succ, List.getElem_cons_zero, List.setIfInBounds_toArray, List.set_cons_zero, List.set_cons_succ]
        refine wpAny_ready (rs := [18]) (by kernel_rfl) (by simp) ?_
        refine AllReady.cons rfl (fun K5 hK => ?_) AllReady.nil
        go_simp
        refine hK _ _ ?_
        clear hK K5
        try simp only [Act.put, List.setIfInBounds_toArray]
        refine wpAny_done (by kernel_rfl) ?_ _
        go_wp2_with fail
        go_ret
        exact ⟨by rw [HX.out.1]; rfl, _, by rw [HX.out.2]; exact HF.out.1, HF.out.2⟩
      refine AllReady.cons rfl (fun K5 hK => ?_) AllReady.nil
      go_simp
      refine hK _ _ ?_
      clear hK K5
      try simp only [Act.put, List.setIfInBounds_toArray, List.set_cons_zero, List.set_cons_succ]
      refine wpAny_ready (rs := [4]) (by kernel_rfl) (by simp) ?_
      refine AllReady.cons rfl (fun K5 hK => ?_) AllReady.nil
      go_simp
      refine hK _ _ ?_
      clear hK K5
      try simp only [Act.put, List.setIfInBounds_toArray, List.set_cons_zero, List.set_cons_succ]
      refine wpAny_ready (rs := [15]) (by kernel_rfl) (by simp) ?_
      refine AllReady.cons rfl (fun K5 hK => ?_) AllReady.nil
      go_simp
      refine (HINS.out w.drew (Below.refl _ _).drew).mono ?_
      rintro e w4 ⟨g', c', cur', rfl, hR4, hc4, hch4, hg4⟩
      go_wp2_with fail
      have FIN := HFIN.out w4 g' c' cur' (.inr ((Chg.of (t2 (Below.refl _ _).drew (aB _ _))).trans hch4)) hR4 hc4 (by rcases hg4 with e | e; exact .inl e; exact .inr (Nat.le_trans (t2 (Below.refl _ _).drew (aB _ _)).size e))
      obtain ⟨f7, z7, K', wd', mv'⟩ := FIN
      have HF : Hid (Wd w0 (w4.setCell ⟨K.wb, 7, none⟩ (.slice (some ⟨g', 0, none⟩) (x.fl.length + 1) c')) K' { x with fl := x.fl.insertIdx (i + 1) tt } t ∧ Mv K K' w (w4.setCell ⟨K.wb, 7, none⟩ (.slice (some ⟨g', 0, none⟩) (x.fl.length + 1) c'))) := ⟨wd', mv'⟩
      clear wd' mv' hR4 hc4 hch4 hg4
      try simp only [Act.put, List.setIfInBounds_toArray]
      refine wpAny_take (i := 16) (v := ?_) rfl (by kernel_rfl) (by kernel_rfl) (by kernel_rfl) (fun _ _ _ h => h) (Or.inl ⟨by rfl, ?_⟩) ?_
      rotate_left
      · intro w9; go_simp; try (with_reducible rfl)
      simp only [Act.put, List.getElem_toArray, List.getElem_cons_succ, List.getElem_cons_zero, List.setIfInBounds_toArray, List.set_cons_zero, List.set_cons_succ]
      refine wpAny_take (i := 17) (v := ?_) rfl (by kernel_rfl) (by kernel_rfl) (by kernel_rfl) (fun _ _ _ h => h) (Or.inl ⟨by rfl, ?_⟩) ?_
      rotate_left
      · intro w9; go_simp; try (with_reducible rfl)
      simp only [Act.put, List.getElem_toArray, List.getElem_cons_succ, List.getElem_cons_zero, List.setIfInBounds_toArray, List.set_cons_zero, List.set_cons_succ]
      refine wpAny_ready (rs := [18]) (by kernel_rfl) (by simp) ?_
      refine AllReady.cons rfl (fun K5 hK => ?_) AllReady.nil
      go_simp
      refine hK _ _ ?_
      clear hK K5
      try simp only [Act.put, List.setIfInBounds_toArray]
      refine wpAny_done (by kernel_rfl) ?_ _
      go_wp2_with fail
      go_ret
      exact ⟨by rw [HX.out.1]; rfl, _, by rw [HX.out.2]; exact HF.out.1, HF.out.2⟩
  · have HX : Hid (x.twE n = 4 ∧ x.twiced n = x) := by
      have e0 : x.flE n = 4 := by unfold Wo.flE; rw [if_neg h2]
      have e : x.twE n = 4 := by unfold Wo.twE; rw [if_neg (by rw [e0]; decide), e0]
      exact ⟨e, by unfold Wo.twiced; rw [if_neg (by rw [e]; decide)]⟩
    rw [decide_eq_false h2]
    have g3 := HSW.out.c3
    go_wp2_with fail
    go_ret
    exact ⟨by rw [HX.out.1]; rfl, K, by rw [HX.out.2]; exact HW.out, Mv.of (Below.refl _ _)⟩
end Go.Proofs.YtenonidmgpmohaaGreatDoor
