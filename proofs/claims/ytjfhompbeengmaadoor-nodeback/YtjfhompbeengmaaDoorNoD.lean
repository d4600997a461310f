/-
  Package node's notes, Tick.
-/
import Derived.Test.YtjfhompbeengmaaDoorNoN
namespace Go.Proofs.YtjfhompbeengmaaDoor
open Go.RowKit

def noteC (x : No) (cl : Bool) (cv : Value) : List Value := [.int .i64 x.id, .int .i64 x.life, .int .i64 x.ro.ep, .bool cl, cv]
theorem Tryd.infoNote : (Tryd.prog.info? 111).map (fun i => (i.zero, i.size, i.bytes)) = some (some (.agg #[.int .i64 0, .int .i64 0, .int .i64 0, .bool false, .slice none 0 0]), 5, 56) := by kernel_rfl
/-- the cells of a note: none, or those of these slots. -/
def CelV (w : World) (base : Nat) (T : Tb) (L : List Nat) (v : Value) : Prop := (L = [] ∧ v = .slice none 0 0) ∨ ∃ Z, v = .slice (some ⟨Z, 0, none⟩) 8 8 ∧ base ≤ Z ∧ RowsB w Z T L ∧ L.length = 8
/-- notes in a slice. -/
def NtsV (w : World) (base : Nat) (x : No) (l : List Nt) (v : Value) : Prop := ∃ p cap, v = .slice p l.length cap ∧ (l.length ≤ cap ∧ (l = [] → p = none ∧ cap = 0)) ∧ ∀ (i : Nat) t, l[i]? = some t → ∃ g cv, p = some ⟨g, 0, none⟩ ∧ base ≤ g ∧ CelV w base x.T t.L cv ∧ ∀ (j : Nat) u, (noteC x t.cl cv)[j]? = some u → w.cell? ⟨g, i * 5 + j, none⟩ = some u
theorem owns_chgL {w w' : World} {base n size : Nat} {e : TypeId} {v : Value} {cs : List Value} {l : List Nat} (h : w.ownsRow base e size v n cs) (hc : ChgL l w w') (hb : ∀ b ∈ l, b < base) : w'.ownsRow base e size v n cs := by
  have hlt := h.lt
  obtain ⟨h1, h2⟩ := h
  refine ⟨h1, ?_⟩
  rcases h2 with ⟨rfl, h0⟩ | ⟨g, cap, cur, rfl, q1, hh, q2⟩
  · exact .inl ⟨rfl, h0⟩
  · refine .inr ⟨g, cap, cur, rfl, q1, ?_, q2⟩
    rw [hc.block g (hlt g rfl).2 (fun hm => by have := hb g hm; omega)]
    exact hh
theorem NtsV.nil (w : World) (base : Nat) (x : No) : NtsV w base x [] (.slice none 0 0) := ⟨none, 0, rfl, ⟨Nat.le_refl _, fun _ => ⟨rfl, rfl⟩⟩, fun i t h => by simp at h⟩
theorem NtsV.one {w : World} {base : Nat} {x : No} {t : Nt} {cv v : Value} (h : w.ownsRow base 111 5 v 1 (noteC x t.cl cv)) (hc : CelV w base x.T t.L cv) : NtsV w base x [t] v := by
  obtain ⟨h1, h2⟩ := h
  rcases h2 with ⟨_, h0⟩ | ⟨g, cap, cur, rfl, q1, hh, q2, q3, q4, ht⟩
  · cases h0
  · refine ⟨some ⟨g, 0, none⟩, cap, rfl, ⟨q2, fun e => by cases e⟩, fun i t' hi => ?_⟩
    match i, hi with
    | 0, hi =>
      obtain rfl : t = t' := by simpa using hi
      refine ⟨g, cv, rfl, q1, hc, fun j u hu => ?_⟩
      have hj : j < 5 := (List.getElem?_eq_some_iff.1 hu).1
      rw [← ht, List.getElem?_take, if_pos (by omega), Array.getElem?_toList] at hu
      rw [cell_of_row w g _ _ _ _ hh, Nat.zero_mul, Nat.zero_add]
      exact hu
theorem NtsV.two {w : World} {base : Nat} {x : No} {t u : Nt} {cv dv v : Value} (h : w.ownsRow base 111 5 v 2 (noteC x t.cl cv ++ noteC x u.cl dv)) (hc : CelV w base x.T t.L cv) (hd : CelV w base x.T u.L dv) : NtsV w base x [t, u] v := by
  obtain ⟨h1, h2⟩ := h
  rcases h2 with ⟨_, h0⟩ | ⟨g, cap, cur, rfl, q1, hh, q2, q3, q4, ht⟩
  · cases h0
  · refine ⟨some ⟨g, 0, none⟩, cap, rfl, ⟨q2, fun e => by cases e⟩, fun i t' hi => ?_⟩
    match i, hi with
    | 0, hi =>
      obtain rfl : t = t' := by simpa using hi
      refine ⟨g, cv, rfl, q1, hc, fun j z hu => ?_⟩
      have hj : j < 5 := (List.getElem?_eq_some_iff.1 hu).1
      have hz : (noteC x t.cl cv ++ noteC x u.cl dv)[j]? = some z := by rw [List.getElem?_append_left (by simpa [noteC] using hj)]; exact hu
      rw [← ht, List.getElem?_take, if_pos (by omega), Array.getElem?_toList] at hz
      rw [cell_of_row w g _ _ _ _ hh, Nat.zero_mul, Nat.zero_add]
      exact hz
    | 1, hi =>
      obtain rfl : u = t' := by simpa using hi
      refine ⟨g, dv, rfl, q1, hd, fun j z hu => ?_⟩
      have hj : j < 5 := (List.getElem?_eq_some_iff.1 hu).1
      have hz : (noteC x t.cl cv ++ noteC x u.cl dv)[5 + j]? = some z := by rw [List.getElem?_append_right (by simp [noteC])]; simpa [noteC] using hu
      rw [← ht, List.getElem?_take, if_pos (by omega), Array.getElem?_toList] at hz
      rw [cell_of_row w g _ _ _ _ hh, Nat.one_mul]
      exact hz
theorem noteC_one (x : No) (cl : Bool) (p : Option Addr) (a c : Nat) : ∀ u ∈ noteC x cl (.slice p a c), u.oneCell' = true := fun u hu => by
  simp only [noteC, List.mem_cons, List.not_mem_nil, or_false] at hu
  rcases hu with rfl | rfl | rfl | rfl | rfl <;> rfl
theorem grown_chgL {u u' : World} {row : Option Nat} (h : u.grownBy u' row) : ChgL row.toList u u' :=
  ⟨h.os, h.tape, h.output, h.size, fun k hk hn => h.block k hk (fun e => hn (by rw [← e]; simp))⟩
theorem RowsB.kept {w w' : World} {Z : Nat} {T : Tb} {L : List Nat} (h : RowsB w Z T L) (e : w'.heap[Z]? = w.heap[Z]?) : RowsB w' Z T L := by
  obtain ⟨cs, h1, h2⟩ := h
  exact ⟨cs, by rw [e]; exact h1, h2⟩
theorem Nd.rlt2 {w0 w : World} {k : Bk} {x : No} {m n : Nat} (h : Nd w0 w k x m n) (hn : x.ru ≠ []) : ∀ a, k.rp = some a → a.block < w.heap.size := fun a e => by
  obtain ⟨r, hr'⟩ := List.exists_mem_of_ne_nil _ hn
  obtain ⟨i, hi⟩ := List.getElem?_of_mem hr'
  obtain ⟨b, o, e2, h0, _⟩ := h.ru i r hi
  rw [e] at e2
  cases e2
  have q : b < w.heap.size := tlt h0
  exact q
/-- a fresh slice grew: all else is as it was. -/
theorem grown_nd {w0 w u u' : World} {k : Bk} {x y : No} {m n m' n' : Nat} {row : Option Nat} (H : Nd w0 w k x m n) (h : Nd w0 u k y m' n') (hy : y.ru = x.ru) (c : ChgL k.all w u) (g : u.grownBy u' row) (hr : ∀ q, row = some q → w.heap.size ≤ q) : Nd w0 u' k y m' n' ∧ ChgL k.all w u' := by
  have g' := grown_chgL g
  have hq : ∀ b ∈ row.toList, w.heap.size ≤ b := fun b hb => hr b (by simpa using hb)
  refine ⟨h.kept g' (fun b hb hm => ?_) (fun hn a e hm => ?_) (fun b hb => Nat.le_trans H.bl.size (hq b hb)), ?_⟩
  · have := hq b hm; have := H.lt b hb; omega
  · have := hq _ hm; have := H.rlt2 (by rw [← hy]; exact hn) a e; omega
  · have h1 : ChgL (k.all ++ row.toList) w u := c.mono (fun b hb => Or.inl (List.mem_append_left _ hb))
    have h2 : ChgL (k.all ++ row.toList) u u' := g'.mono (fun b hb => Or.inl (List.mem_append_right _ hb))
    exact (h1.trans h2).mono (fun b hb => by rcases List.mem_append.1 hb with q | q; exact Or.inl q; exact Or.inr (hq b q))
set_option maxRecDepth 100000 in
set_option maxHeartbeats 4000000 in
theorem notes_nd {w0 w : World} {k : Bk} {x : No} {m n : Nat} (h : Nd w0 w k x m n) (fresh : Bool) (h0 : 0 ≤ x.now) (hm : m ≤ 1000000000) (hn : n ≤ 100000000) :
    Calls Tryd.prog 28 #[.pointer (some ⟨k.nd, 0, none⟩), .bool fresh] w fun e w' => (∃ v, e = .returned v ∧ NtsV w' w.heap.size x (x.notes fresh) v) ∧ (∃ n', n' ≤ n + 8 ∧ Nd w0 w' k x.noted m n') ∧ ChgL k.all w w' := by
  obtain ⟨i0, hi, hz0, hz1, hz2⟩ := info_parts Tryd.infoNote
  have HN : Hid (Nd w0 w k x m n) := h
  have HM : Hid (m ≤ 1000000000 ∧ n ≤ 100000000) := ⟨hm, hn⟩
  have c0 := h.c0
  have c3 := h.c3
  have hdue : Int.tmod x.now 3 = x.now % 3 := Int.tmod_eq_emod_of_nonneg h0
  have HD : Hid (x.due = decide (x.now % 3 = 0)) := rfl
  clear h h0 hm hn
  cases ha : x.ro.ac
  · have HX : Hid (x.notes fresh = [] ∧ x.noted = x) := by
      constructor
      · unfold No.notes; rw [ha]; rfl
      · unfold No.noted; rw [ha]; rfl
    go_enter Tryd.func28, Tryd.ntmps28
    go_wp2_with fail
    refine (active_any k.ro x.ro w HN.out.ro).mono ?_
    rintro e w1 ⟨rfl, rfl⟩
    rw [ha]
    go_wp2_with fail
    go_ret
    rw [HX.out.1, HX.out.2]
    exact ⟨⟨_, rfl, NtsV.nil _ _ _⟩, ⟨n, by omega, HN.out⟩, ChgL.refl _ _⟩
  · have HAC : Hid (x.ro.ac = true) := ha
    have HB : Hid (∀ b ∈ k.all, b < w.heap.size) := HN.out.lt
    rcases hd : x.due with _ | _
    · have hd3 : ¬ x.now % 3 = 0 := by rw [HD.out] at hd; simpa using hd
      have HX2 : Hid (x.noted = x) := by show _ = _; unfold No.noted; rw [ha, hd]; rfl
      cases fresh
      · have HX : Hid (x.notes false = []) := by show _ = _; unfold No.notes; rw [ha, hd]; rfl
        clear hd HD
        go_enter Tryd.func28, Tryd.ntmps28
        go_wp2_with fail
        refine (active_any k.ro x.ro w HN.out.ro).mono ?_
        rintro e w1 ⟨rfl, rfl⟩
        rw [HAC.out]
        go_wp2_with fail
        go_ret
        rw [HX.out, HX2.out]
        exact ⟨⟨_, rfl, NtsV.nil _ _ _⟩, ⟨n, by omega, HN.out⟩, ChgL.refl _ _⟩
      · have HX : Hid (x.notes true = [⟨true, []⟩]) := by show _ = _; unfold No.notes; rw [ha, hd]; rfl
        clear hd HD
        go_enter Tryd.func28, Tryd.ntmps28
        go_wp2_with fail
        refine (active_any k.ro x.ro w HN.out.ro).mono ?_
        rintro e w1 ⟨rfl, hw1⟩
        obtain rfl := hw1.symm
        rw [HAC.out]
        go_wp2_with fail
        refine (note_nd HN.out true none 0 0).mono ?_
        rintro e w2 ⟨rfl, hb2⟩
        have B2 : Hid (Below w.heap.size w w2) := hb2
        clear hb2
        go_wp2_with (at_builtin; refine wpList_append_own _ rfl _ _ 36 rfl w.heap.size 111 i0 _ 5 56 Tryd.underlying36 hi hz0 hz1 hz2 rfl (by decide) (.slice none 0 0) 0 [] rfl (World.ownsRow_nil _ _ _ _) ⟨w2.heap.size, 0, none⟩ 1 1 (noteC x true (.slice none 0 0)) rfl rfl ?c1 (noteC_one _ _ _ _ _) ?c3 ?c4 ?c5 ?_)
        case c1 =>
          intro q u hu
          rw [tadd, Nat.zero_add, cell_of_row _ _ _ _ _ _ (heap_alloc_new w2 _)]
          simpa [noteC] using hu
        case c3 => unfold maxLen; omega
        case c4 => omega
        case c5 => have := B2.out.size; simp; omega
        intro v3 w3 hO3 hg3 _
        have O3 : Hid (w3.ownsRow w.heap.size 111 5 v3 1 (noteC x true (.slice none 0 0))) := hO3
        have B3 : Hid (Below w.heap.size w w3) := (B2.out.alloc B2.out.size _).grown hg3 (by have := B2.out.size; simp; omega) (fun q hq => by simp [Value.ownBlock] at hq)
        clear hO3 hg3 B2
        go_wp2_with fail
        go_ret
        rw [HX.out, HX2.out]
        exact ⟨⟨_, rfl, NtsV.one O3.out (Or.inl ⟨rfl, rfl⟩)⟩, ⟨n, by omega, HN.out.below B3.out⟩, ChgL.of B3.out⟩
    · have hd3 : x.now % 3 = 0 := by rw [HD.out] at hd; simpa using hd
      have HX : Hid (x.notes fresh = [⟨true, []⟩, ⟨false, nxL x.T x.D x.cu⟩]) := by show _ = _; unfold No.notes; rw [ha, hd]; cases fresh <;> rfl
      have HX2 : Hid (x.noted = { x with D := toldD x.T x.D (nxL x.T x.D x.cu), cu := nxC x.T x.D x.cu }) := by show _ = _; unfold No.noted; rw [ha, hd]; rfl
      clear hd HD
      cases fresh
      all_goals
        go_enter Tryd.func28, Tryd.ntmps28
        go_wp2_with fail
        refine (active_any k.ro x.ro w HN.out.ro).mono ?_
        rintro e w1 ⟨rfl, hw1⟩
        obtain rfl := hw1.symm
        rw [HAC.out]
        go_wp2_with fail
        refine (note_nd HN.out true none 0 0).mono ?_
        rintro e w2 ⟨rfl, hb2⟩
        have B2 : Hid (Below w.heap.size w w2) := hb2
        clear hb2
        go_wp2_with (at_builtin; refine wpList_append_own _ rfl _ _ 36 rfl w.heap.size 111 i0 _ 5 56 Tryd.underlying36 hi hz0 hz1 hz2 rfl (by decide) (.slice none 0 0) 0 [] rfl (World.ownsRow_nil _ _ _ _) ⟨w2.heap.size, 0, none⟩ 1 1 (noteC x true (.slice none 0 0)) rfl rfl ?c1 (noteC_one _ _ _ _ _) ?c3 ?c4 ?c5 ?_)
        case c1 =>
          intro q u hu
          rw [tadd, Nat.zero_add, cell_of_row _ _ _ _ _ _ (heap_alloc_new w2 _)]
          simpa [noteC] using hu
        case c3 => unfold maxLen; omega
        case c4 => omega
        case c5 => have := B2.out.size; simp; omega
        intro v3 w3 hO3 hg3 _
        have O3 : Hid (w3.ownsRow w.heap.size 111 5 v3 1 (noteC x true (.slice none 0 0))) := hO3
        have B3 : Hid (Below w.heap.size w w3) := (B2.out.alloc B2.out.size _).grown hg3 (by have := B2.out.size; simp; omega) (fun q hq => by simp [Value.ownBlock] at hq)
        clear hO3 hg3 B2
        have N3 : Hid (Nd w0 w3 k x m n) := HN.out.below B3.out
        have c6 := N3.out.c6
        go_wp2_with fail
        refine (tnext_nd N3.out HM.out.1 HM.out.2).mono ?_
        rintro e w4 ⟨⟨Z, rfl, hz, hr⟩, n4, k4⟩
        have N4 : Hid (Nd w0 w4 k { x with D := toldD x.T x.D (nxL x.T x.D x.cu), cu := nxC x.T x.D x.cu } m (n + 8)) := n4
        have K4 : Hid (ChgL k.all w w4) := (ChgL.of B3.out).trans k4
        have O4 : Hid (w4.ownsRow w.heap.size 111 5 v3 1 (noteC x true (.slice none 0 0))) := owns_chgL O3.out k4 HB.out
        have R4 : Hid (RowsB w4 Z x.T (nxL x.T x.D x.cu)) := hr
        have ZZ : Hid (w.heap.size ≤ Z) := Nat.le_trans B3.out.size hz
        have VZ : Hid (∀ q, v3.ownBlock = some q → q ≠ Z ∧ w.heap.size ≤ q) := fun q hq => by have := O3.out.lt q hq; exact ⟨by omega, this.1⟩
        have S4 : Hid (w.heap.size ≤ w4.heap.size) := K4.out.size
        clear n4 k4 hr hz c6 O3 B3 N3
        go_wp2_with fail
        refine (note_nd N4.out false (some ⟨Z, 0, none⟩) 8 8).mono ?_
        rintro e w5 ⟨rfl, hb5⟩
        have B5 : Hid (Below w4.heap.size w4 w5) := hb5
        have O5 : Hid (w5.ownsRow w.heap.size 111 5 v3 1 (noteC x true (.slice none 0 0))) := owns_chgL (l := []) O4.out (ChgL.of hb5) (fun _ hm => by simp at hm)
        clear hb5 O4
        go_wp2_with (at_builtin; refine wpList_append_own _ rfl _ _ 36 rfl w.heap.size 111 i0 _ 5 56 Tryd.underlying36 hi hz0 hz1 hz2 rfl (by decide) v3 1 (noteC x true (.slice none 0 0)) rfl (O5.out.alloc _) ⟨w5.heap.size, 0, none⟩ 1 1 (noteC x false (.slice (some ⟨Z, 0, none⟩) 8 8)) rfl rfl ?c1 (noteC_one _ _ _ _ _) ?c3 ?c4 ?c5 ?_)
        case c1 =>
          intro q u hu
          rw [tadd, Nat.zero_add, cell_of_row _ _ _ _ _ _ (heap_alloc_new w5 _)]
          simpa [noteC] using hu
        case c3 => unfold maxLen; omega
        case c4 => omega
        case c5 => have := B5.out.size; have := S4.out; simp; omega
        intro v6 w6 hO6 hg6 _
        have O6 : Hid (w6.ownsRow w.heap.size 111 5 v6 2 (noteC x true (.slice none 0 0) ++ noteC x false (.slice (some ⟨Z, 0, none⟩) 8 8))) := hO6
        have G6 : Hid (∃ u, (Below w4.heap.size w4 u) ∧ u.grownBy w6 v3.ownBlock) := ⟨_, B5.out.alloc B5.out.size _, hg6⟩
        clear hO6 hg6
        go_wp2_with fail
        go_ret
        obtain ⟨u, bu, gu⟩ := G6.out
        obtain ⟨r1, r2⟩ := grown_nd HN.out (N4.out.below bu) rfl (K4.out.then bu) gu (fun q hq => (VZ.out q hq).2)
        rw [HX.out, HX2.out]
        refine ⟨⟨_, rfl, NtsV.two O6.out (Or.inl ⟨rfl, rfl⟩) (Or.inr ⟨Z, rfl, ZZ.out, ?_, (nx_spec x.T x.D x.cu).len⟩)⟩, ⟨n + 8, by omega, r1⟩, r2⟩
        exact (R4.out.below bu).kept (gu.block Z (R4.out.below bu).lt (fun e => (VZ.out Z e.symm).1 rfl))
theorem NtsV.mono {w : World} {b b' : Nat} {x : No} {l : List Nt} {v : Value} (h : NtsV w b x l v) (hb : b' ≤ b) : NtsV w b' x l v := by
  obtain ⟨p, cap, e, hq, hh⟩ := h
  refine ⟨p, cap, e, hq, fun i t ht => ?_⟩
  obtain ⟨g, cv, e1, e2, e3, e4⟩ := hh i t ht
  refine ⟨g, cv, e1, Nat.le_trans hb e2, ?_, e4⟩
  rcases e3 with q | ⟨Z, q1, q2, q3⟩
  · exact Or.inl q
  · exact Or.inr ⟨Z, q1, Nat.le_trans hb q2, q3⟩
theorem rings_ac {r : Ro} (h : r.rings = true) : r.tick.ac = false ∧ r.ac = false := by
  unfold Ro.rings at h
  unfold Ro.tick
  cases ha : r.ac
  · exact ⟨by simp, rfl⟩
  · rw [ha] at h; simp at h
theorem onNow_nd {w0 w : World} {k : Bk} {x : No} {m n : Nat} (h : Nd w0 w k x m n) (t : Int) : Nd w0 (w.setCell ⟨k.nd, 3, none⟩ (.int .i64 t)) k { x with now := t } m n ∧ ChgL k.all w (w.setCell ⟨k.nd, 3, none⟩ (.int .i64 t)) := ⟨h.onNow t, ChgL.one (Chg.set _ _ _ _) k.m_nd⟩
set_option maxRecDepth 100000 in
set_option maxHeartbeats 4000000 in
theorem tick_nd {w0 w : World} {k : Bk} {x : No} {m n : Nat} {s : Nat → Addr} (S : SeN w0 s) (h : Nd w0 w k x m n) (h0 : 0 ≤ x.now) (h1 : x.now ≤ 999999999) (hm : m ≤ 90000000) (hn : n ≤ 100000000) :
    Calls Tryd.prog 7 #[.pointer (some ⟨k.nd, 0, none⟩)] w fun e w' => (∃ v, e = .returned (.tuple #[v, terr s x.tkE]) ∧ NtsV w' w.heap.size x.tk1 x.tickL v) ∧ (∃ n', n' ≤ n + 8 ∧ Nd w0 w' k x.tick (m + 33) n') ∧ ChgL k.all w w' := by
  have HS : Hid (SeN w0 s) := S
  have HN : Hid (Nd w0 w k x m n) := h
  have HW : Hid (0 ≤ x.now ∧ x.now ≤ 999999999 ∧ m ≤ 90000000 ∧ n ≤ 100000000) := ⟨h0, h1, hm, hn⟩
  have c3 := h.c3
  have f3 := h.nd.fr 3
  have hne : (x.now == 1099511627776) = false := by rw [beq_eq_false_iff_ne]; omega
  have hw : IntKind.i64.wrap (x.now + 1) = x.now + 1 := by rw [IntKind.wrap_i64]; omega
  clear S h h0 h1 hm hn
  go_enter Tryd.func7, Tryd.ntmps7
  go_upto_region 4 with fail
  go_wp2_with fail
  have N1 : Hid (Nd w0 (w.setCell ⟨k.nd, 3, none⟩ (.int .i64 (x.now + 1))) k { x with now := x.now + 1 } m n) := (onNow_nd HN.out _).1
  have K1 : Hid (ChgL k.all w (w.setCell ⟨k.nd, 3, none⟩ (.int .i64 (x.now + 1)))) := (onNow_nd HN.out _).2
  clear c3 f3 hne hw
  generalize w.setCell ⟨k.nd, 3, none⟩ (.int .i64 (x.now + 1)) = w1 at *
  have hS : w1.drew.cell? ⟨k.nd, 6, none⟩ = some (.pointer (some ⟨k.te, 0, none⟩)) ∧ w1.drew.cell? ⟨k.te, 0, none⟩ = some (.pointer (some ⟨k.tb, 0, none⟩)) ∧ w1.drew.cell? ⟨k.nd, 3, none⟩ = some (.int .i64 (x.now + 1)) := ⟨N1.out.c6, N1.out.t0, N1.out.c3⟩
  go_region_held3 (fun w' => w'.cell? ⟨k.nd, 6, none⟩ = some (.pointer (some ⟨k.te, 0, none⟩)) ∧ w'.cell? ⟨k.te, 0, none⟩ = some (.pointer (some ⟨k.tb, 0, none⟩)) ∧ w'.cell? ⟨k.nd, 3, none⟩ = some (.int .i64 (x.now + 1)))
    (first | assumption | exact ⟨N2.out.c6, N2.out.t0, N2.out.c3⟩)
    (first | (go_at_call 25; refine (expire_nd N1.out.drew (by have := HW.out; omega) (x.now + 1)).mono ?_; rintro e w2 ⟨⟨v2, rfl⟩, n2, k2⟩; have N2 : Hid (Nd w0 w2 k { x with now := x.now + 1, T := expT x.T (x.now + 1) 32 } (m + 1) n) := n2; have K2 : Hid (ChgL k.all w w2) := (K1.out.then (Below.refl _ _).drew).trans k2; clear n2 k2))
  clear hS
  have c0 := N2.out.c0
  go_wp2_with fail
  refine (active_any k.ro x.ro w2 N2.out.ro).mono ?_
  rintro e w3 ⟨rfl, hw3⟩
  obtain rfl := hw3.symm
  clear hw3
  go_wp2_with fail
  obtain ⟨r, hr⟩ : ∃ r, x.ro.rings = r := ⟨_, rfl⟩
  refine (rtick_nd N2.out r hr).mono ?_
  rintro e w3 ⟨rfl, n3, k3⟩
  have N3 : Hid (Nd w0 w3 k x.ticked (m + 1) n) := n3
  have K3 : Hid (ChgL k.all w w3) := K2.out.trans k3
  clear n3 k3 N1 K1 N2 K2 c0
  cases r
  · have HE : Hid (x.tkE = 0) := by show _ = _; unfold No.tkE; rw [hr]; rfl
    have HT : Hid (x.tk1 = x.ticked) := by show _ = _; unfold No.tk1; rw [hr]; rfl
    have HL : Hid (x.tickL = x.ticked.notes (!x.ro.ac)) := by show _ = _; unfold No.tickL; rw [HE.out, HT.out]; rfl
    have HX : Hid (x.tick = x.ticked.noted) := by show _ = _; unfold No.tick; rw [HE.out, HT.out]; rfl
    go_wp2_with fail
    refine (notes_nd N3.out (!x.ro.ac) (by have := HW.out; show 0 ≤ x.now + 1; omega) (by have := HW.out; omega) HW.out.2.2.2).mono ?_
    rintro e w4 ⟨⟨v4, rfl, nv⟩, ⟨n', hn', n4⟩, k4⟩
    have V4 : Hid (NtsV w4 w.heap.size x.ticked (x.ticked.notes (!x.ro.ac)) v4) := nv.mono K3.out.size
    have N4 : Hid (Nd w0 w4 k x.ticked.noted (m + 1) n') := n4
    have K4 : Hid (ChgL k.all w w4) := K3.out.trans k4
    have HNN : Hid (n' ≤ n + 8) := hn'
    clear nv n4 k4 hn'
    go_wp2_with fail
    go_ret2
    exact ⟨⟨v4, by rw [HE.out]; rfl, by rw [HT.out, HL.out]; exact V4.out⟩, ⟨n', HNN.out, by rw [HX.out]; exact N4.out.more (by omega)⟩, K4.out⟩
  · have HAC := rings_ac hr
    have HC : Hid (x.tk1 = x.ticked.clm ∧ x.tkE = x.ticked.clE) := by
      constructor
      · unfold No.tk1; rw [hr]; rfl
      · unfold No.tkE; rw [hr]; rfl
    have HF : Hid (x.ro.ac = false) := HAC.2
    have HA2 : Hid (x.ticked.ro.ac = false) := HAC.1
    clear HAC
    go_wp2_with fail
    refine (nclaim_nd HS.out N3.out HA2.out (by have := HW.out; show 0 ≤ x.now + 1; omega) (by have := HW.out; show x.now + 1 ≤ _; omega) (by have := HW.out; omega)).mono ?_
    rintro e w4 ⟨rfl, n4, k4⟩
    have N4 : Hid (Nd w0 w4 k x.ticked.clm (m + 33) n) := n4.more (by omega)
    have K4 : Hid (ChgL k.all w w4) := K3.out.trans k4
    clear n4 k4 N3 K3
    by_cases he : x.ticked.clE = 0
    · have HE : Hid (x.tkE = 0) := by show _ = _; rw [HC.out.2, he]
      have HL : Hid (x.tickL = x.ticked.clm.notes (!x.ro.ac)) := by show _ = _; unfold No.tickL; rw [HE.out, HC.out.1]; rfl
      have HX : Hid (x.tick = x.ticked.clm.noted) := by show _ = _; unfold No.tick; rw [HE.out, HC.out.1]; rfl
      have HNW : Hid (x.ticked.clm.now = x.now + 1) := by show _ = _; unfold No.clm; split; split; rfl; rfl; rfl
      rw [he]
      clear he
      simp only [terr]
      go_wp2_with fail
      refine (notes_nd N4.out (!x.ro.ac) (by rw [HNW.out]; have := HW.out; omega) (by have := HW.out; omega) HW.out.2.2.2).mono ?_
      rintro e w5 ⟨⟨v5, rfl, nv⟩, ⟨n', hn', n5⟩, k5⟩
      have V5 : Hid (NtsV w5 w.heap.size x.ticked.clm (x.ticked.clm.notes (!x.ro.ac)) v5) := nv.mono K4.out.size
      have N5 : Hid (Nd w0 w5 k x.ticked.clm.noted (m + 33) n') := n5
      have K5 : Hid (ChgL k.all w w5) := K4.out.trans k5
      have HNN : Hid (n' ≤ n + 8) := hn'
      clear nv n5 k5 hn'
      go_wp2_with fail
      go_ret2
      exact ⟨⟨v5, by rw [HE.out]; rfl, by rw [HC.out.1, HL.out]; exact V5.out⟩, ⟨n', HNN.out, by rw [HX.out]; exact N5.out⟩, K5.out⟩
    · have HE : Hid (¬ x.tkE = 0) := by show ¬ _ = _; rw [HC.out.2]; exact he
      have HL : Hid (x.tickL = []) := by show _ = _; unfold No.tickL; rw [if_neg HE.out]
      have HX : Hid (x.tick = x.ticked.clm) := by show _ = _; unfold No.tick; rw [if_neg HE.out, HC.out.1]
      obtain ⟨e1, he1⟩ : ∃ e1, x.ticked.clE = e1 + 1 := ⟨x.ticked.clE - 1, by omega⟩
      have HE1 : Hid (x.tkE = e1 + 1) := by show _ = _; rw [HC.out.2, he1]
      rw [he1]
      clear he he1
      simp only [terr]
      go_wp2_with fail
      go_ret2
      exact ⟨⟨_, by rw [HE1.out]; rfl, by rw [HL.out]; exact NtsV.nil _ _ _⟩, ⟨n, by omega, by rw [HX.out]; exact N4.out⟩, K4.out⟩
end Go.Proofs.YtjfhompbeengmaaDoor
