/-
  The document's ruleOf.
-/
import Derived.Test.YtpmoamfhppmicaaGreatDoorRdB
import Derived.Deep.DeepCutAuto
import Derived.Deep.CutRange
namespace Go.Proofs.YtpmoamfhppmicaaGreatDoor
open Go.RowKit

theorem rd4_name {i : Nat} (hi : i < 2) {x : ByteArray} : (∃ k, nameOf i x = some k ∧ k < 2 ∧ x = ⟨(nmW i k).toArray⟩) ∨ (nameOf i x = none ∧ ¬ x = ⟨(nmW i 0).toArray⟩ ∧ ¬ x = ⟨(nmW i 1).toArray⟩) := by
  unfold nameOf
  by_cases e0 : x = ⟨(nmW i 0).toArray⟩
  · rw [if_pos e0]; exact .inl ⟨0, rfl, by omega, e0⟩
  · rw [if_neg e0]
    by_cases e1 : x = ⟨(nmW i 1).toArray⟩
    · rw [if_pos e1]; exact .inl ⟨1, rfl, by omega, e1⟩
    · rw [if_neg e1, if_neg (fun h => by omega)]; exact .inr ⟨rfl, e0, e1⟩
theorem rd4_name2 {x : ByteArray} : (∃ k, nameOf 2 x = some k ∧ k < 3 ∧ x = ⟨(nmW 2 k).toArray⟩) ∨ (nameOf 2 x = none ∧ ¬ x = ⟨(nmW 2 0).toArray⟩ ∧ ¬ x = ⟨(nmW 2 1).toArray⟩ ∧ ¬ x = ⟨(nmW 2 2).toArray⟩) := by
  unfold nameOf
  by_cases e0 : x = ⟨(nmW 2 0).toArray⟩
  · rw [if_pos e0]; exact .inl ⟨0, rfl, by omega, e0⟩
  · rw [if_neg e0]
    by_cases e1 : x = ⟨(nmW 2 1).toArray⟩
    · rw [if_pos e1]; exact .inl ⟨1, rfl, by omega, e1⟩
    · rw [if_neg e1]
      by_cases e2 : x = ⟨(nmW 2 2).toArray⟩
      · rw [if_pos ⟨rfl, e2⟩]; exact .inl ⟨2, rfl, by omega, e2⟩
      · rw [if_neg (fun h => e2 h.2)]; exact .inr ⟨rfl, e0, e1, e2⟩
theorem lits {x : ByteArray} {l : List UInt8} (h : ¬ x = ⟨l.toArray⟩) : (x.toList == l) = false := by
  rw [beq_eq_false_iff_ne]
  intro e
  apply h
  apply ByteArray.ext
  apply Array.ext'
  simpa [ByteArray.toList_eq] using e
theorem lit_eq {x : ByteArray} {l : List UInt8} (h : (x.toList == l) = true) : x = ⟨l.toArray⟩ := by
  rw [beq_iff_eq] at h
  apply ByteArray.ext
  apply Array.ext'
  simpa [ByteArray.toList_eq] using h
theorem name_a {a : ByteArray} {ta da : Bool} (h1 : (a.toList == [97, 108, 108, 111, 119]) = ta) (h0 : (a.toList == [100, 101, 110, 121]) = da) (h : ta = true ∨ da = true) : ∃ i, nameOf 0 a = some i ∧ (i == 1) = ta := by
  cases ta
  · have hd : da = true := by simpa using h
    rw [hd] at h0
    exact ⟨0, by unfold nameOf; rw [if_pos (show a = ⟨(nmW 0 0).toArray⟩ from lit_eq h0)], rfl⟩
  · have e := lit_eq h1
    refine ⟨1, ?_, rfl⟩
    rw [e]
    decide
theorem name_b {a : ByteArray} {ta da : Bool} (h1 : (a.toList == [111, 117, 116]) = ta) (h0 : (a.toList == [105, 110]) = da) (h : ta = true ∨ da = true) : ∃ i, nameOf 1 a = some i ∧ (i == 1) = ta := by
  cases ta
  · have hd : da = true := by simpa using h
    rw [hd] at h0
    exact ⟨0, by unfold nameOf; rw [if_pos (show a = ⟨(nmW 1 0).toArray⟩ from lit_eq h0)], rfl⟩
  · have e := lit_eq h1
    refine ⟨1, ?_, rfl⟩
    rw [e]
    decide
theorem name_a0 {a : ByteArray} (h1 : (a.toList == [97, 108, 108, 111, 119]) = false) (h0 : (a.toList == [100, 101, 110, 121]) = false) : nameOf 0 a = none := by
  rcases rd4_name (i := 0) (by omega) (x := a) with ⟨k, h, hk, e⟩ | ⟨h, _⟩
  · exfalso
    subst e
    match k, hk with
    | 0, _ => simp [nmW, ByteArray.toList_eq] at h0
    | 1, _ => simp [nmW, ByteArray.toList_eq] at h1
  · exact h
theorem name_b0 {a : ByteArray} (h1 : (a.toList == [111, 117, 116]) = false) (h0 : (a.toList == [105, 110]) = false) : nameOf 1 a = none := by
  rcases rd4_name (i := 1) (by omega) (x := a) with ⟨k, h, hk, e⟩ | ⟨h, _⟩
  · exfalso
    subst e
    match k, hk with
    | 0, _ => simp [nmW, ByteArray.toList_eq] at h0
    | 1, _ => simp [nmW, ByteArray.toList_eq] at h1
  · exact h
theorem two_odd {l : List UInt8} (h : ¬ (cutFrom 45 [] l).length = 2) : two l = none := by
  rw [two_eq]
  unfold twoR
  split
  · rename_i e; rw [e] at h; exact absurd rfl h
  · rfl
theorem two_pair {l : List UInt8} {p1 p2 : ByteArray} (h : [p1, p2] = cutFrom 45 [] l) : two l = if 0 ≤ numOf p1.data.toList 5 ∧ 0 ≤ numOf p2.data.toList 5 then some (numOf p1.data.toList 5, numOf p2.data.toList 5) else none := by
  rw [two_eq]
  unfold twoR
  rw [← h]
/-- what stands while the document reads a line: the result's place, the four words, the rule. -/
structure Ru (w W : World) (g rb : Nat) (al ou : Bool) (pr lo tp : Int) (a b c d : ByteArray) : Prop where
  r : Rs5 w W
  a0 : W.cell? ⟨g, 0, none⟩ = some (.string a)
  a1 : W.cell? ⟨g, 1, none⟩ = some (.string b)
  a2 : W.cell? ⟨g, 2, none⟩ = some (.string c)
  a3 : W.cell? ⟨g, 3, none⟩ = some (.string d)
  m0 : W.cell? ⟨rb, 0, none⟩ = some (.bool al)
  m1 : W.cell? ⟨rb, 1, none⟩ = some (.bool ou)
  m2 : W.cell? ⟨rb, 2, none⟩ = some (.int .i64 pr)
  m3 : W.cell? ⟨rb, 3, none⟩ = some (.int .i64 lo)
  m4 : W.cell? ⟨rb, 4, none⟩ = some (.int .i64 tp)
  q2 : W.frozen? ⟨rb, 2, none⟩ = false
  q3 : W.frozen? ⟨rb, 3, none⟩ = false
  q4 : W.frozen? ⟨rb, 4, none⟩ = false
  n1 : g < rb
  n2 : w.heap.size < rb
theorem Ru.below {w W W' : World} {g rb : Nat} {al ou : Bool} {pr lo tp : Int} {a b c d : ByteArray} (h : Ru w W g rb al ou pr lo tp a b c d) (hb : Below W.heap.size W W') : Ru w W' g rb al ou pr lo tp a b c d :=
  ⟨h.r.below hb, Below.keeps hb h.a0, Below.keeps hb h.a1, Below.keeps hb h.a2, Below.keeps hb h.a3, Below.keeps hb h.m0, Below.keeps hb h.m1, Below.keeps hb h.m2, Below.keeps hb h.m3, Below.keeps hb h.m4, fk hb h.m2 h.q2, fk hb h.m3 h.q3, fk hb h.m4 h.q4, h.n1, h.n2⟩
theorem Ru.drew {w W : World} {g rb : Nat} {al ou : Bool} {pr lo tp : Int} {a b c d : ByteArray} (h : Ru w W g rb al ou pr lo tp a b c d) : Ru w W.drew g rb al ou pr lo tp a b c d := h.below (Below.refl _ _).drew
theorem Ru.set2 {w W : World} {g rb : Nat} {al ou : Bool} {pr lo tp : Int} {a b c d : ByteArray} (h : Ru w W g rb al ou pr lo tp a b c d) (x : Int) : Ru w (W.setCell ⟨rb, 2, none⟩ (.int .i64 x)) g rb al ou x lo tp a b c d :=
  ⟨h.r.set h.n2, set_far h.n1 h.a0, set_far h.n1 h.a1, set_far h.n1 h.a2, set_far h.n1 h.a3, set_off (by omega) h.m0, set_off (by omega) h.m1, World.cell?_setCell_same _ _ _ h.m2, set_off (by omega) h.m3, set_off (by omega) h.m4, set_fr h.q2, set_fr h.q3, set_fr h.q4, h.n1, h.n2⟩
theorem Ru.set3 {w W : World} {g rb : Nat} {al ou : Bool} {pr lo tp : Int} {a b c d : ByteArray} (h : Ru w W g rb al ou pr lo tp a b c d) (x : Int) : Ru w (W.setCell ⟨rb, 3, none⟩ (.int .i64 x)) g rb al ou pr x tp a b c d :=
  ⟨h.r.set h.n2, set_far h.n1 h.a0, set_far h.n1 h.a1, set_far h.n1 h.a2, set_far h.n1 h.a3, set_off (by omega) h.m0, set_off (by omega) h.m1, set_off (by omega) h.m2, World.cell?_setCell_same _ _ _ h.m3, set_off (by omega) h.m4, set_fr h.q2, set_fr h.q3, set_fr h.q4, h.n1, h.n2⟩
theorem Ru.set4 {w W : World} {g rb : Nat} {al ou : Bool} {pr lo tp : Int} {a b c d : ByteArray} (h : Ru w W g rb al ou pr lo tp a b c d) (x : Int) : Ru w (W.setCell ⟨rb, 4, none⟩ (.int .i64 x)) g rb al ou pr lo x a b c d :=
  ⟨h.r.set h.n2, set_far h.n1 h.a0, set_far h.n1 h.a1, set_far h.n1 h.a2, set_far h.n1 h.a3, set_off (by omega) h.m0, set_off (by omega) h.m1, set_off (by omega) h.m2, set_off (by omega) h.m3, World.cell?_setCell_same _ _ _ h.m4, set_fr h.q2, set_fr h.q3, set_fr h.q4, h.n1, h.n2⟩
theorem Ru.new {w W : World} {g : Nat} {al ou : Bool} {a b c d : ByteArray} (r : Rs5 w W) (a0 : W.cell? ⟨g, 0, none⟩ = some (.string a)) (a1 : W.cell? ⟨g, 1, none⟩ = some (.string b)) (a2 : W.cell? ⟨g, 2, none⟩ = some (.string c)) (a3 : W.cell? ⟨g, 3, none⟩ = some (.string d)) :
    Ru w (W.alloc (.cells #[.bool al, .bool ou, .int .i64 0, .int .i64 0, .int .i64 0] 42)) g W.heap.size al ou 0 0 0 a b c d := by
  have hb : Below W.heap.size W (W.alloc (.cells #[.bool al, .bool ou, .int .i64 0, .int .i64 0, .int .i64 0] 42)) := (Below.refl _ _).alloc (Nat.le_refl _) _
  exact ⟨r.below hb, Below.keeps hb a0, Below.keeps hb a1, Below.keeps hb a2, Below.keeps hb a3, by simp, by simp, by simp, by simp, by simp, by rw [World.frozen?_alloc_at _ _ _ _ rfl], by rw [World.frozen?_alloc_at _ _ _ _ rfl], by rw [World.frozen?_alloc_at _ _ _ _ rfl], cell_lt a0, cell_lt r.c0⟩
set_option maxRecDepth 100000 in
set_option maxHeartbeats 40000000 in
theorem ruleOf_any (x : ByteArray) (hx : x.size ≤ 4000) (w : World) :
    Calls Tryz.prog 25 #[.string x] w fun e w' => ((∃ r, rdL x = some r ∧ e = .returned (.tuple #[rlV r, .bool true])) ∨ (rdL x = none ∧ ∃ r, e = .returned (.tuple #[rlV r, .bool false]))) ∧ Below w.heap.size w w' := by
  have R0 : Hid (Rs5 w (w.alloc (.cells #[.bool false, .bool false, .int .i64 0, .int .i64 0, .int .i64 0] 42))) := Rs5.new w
  go_enter Tryz.func25, Tryz.ntmps25
  go_wp2_with fail
  refine (cutRef_big x hx 32 _).mono ?_
  rintro e w2 ⟨⟨g, cap, rfl, hc⟩, hb2⟩
  have R2 : Hid (Rs5 w w2) := R0.out.below hb2
  have HC : Hid (∀ (j : Nat) z, (cutFrom 32 [] x.data.toList)[j]? = some z → w2.cell? ⟨g, j, none⟩ = some (.string z)) := hc
  have HZ : Hid (∀ z ∈ cutFrom 32 [] x.data.toList, z.size ≤ 4000) := fun z hz => by
    have := cut_size 32 x.data.toList [] z hz
    rw [bytes_len] at this
    simp at this
    omega
  have hlen : (cutFrom 32 [] x.data.toList).length ≤ 4001 := by
    have := words_le x 32
    rw [words_eq] at this
    omega
  clear hc hb2 R0
  by_cases h4 : (cutFrom 32 [] x.data.toList).length = 4
  · obtain ⟨ws, hws⟩ : ∃ ws, ws = cutFrom 32 [] x.data.toList := ⟨_, rfl⟩
    rw [← hws] at h4 HC HZ hlen ⊢
    match ws, h4 with
    | [a, b, c, d], _ =>
      have HQ : Hid (rdL x = rd4 a b c d) := rdL_four hws
      clear hws
      have d0 := HC.out 0 a rfl
      have d1 := HC.out 1 b rfl
      have d2 := HC.out 2 c rfl
      have d3 := HC.out 3 d rfl
      have zd : d.size ≤ 4000 := HZ.out d (by simp)
      have hlt1 : g < w2.heap.size := cell_lt d0
      clear HC HZ hlen
      go_wp2_with fail
      go_region
      generalize hta : (a.toList == [97, 108, 108, 111, 119]) = ta
      generalize htb : (b.toList == [111, 117, 116]) = tb
      generalize hda : (a.toList == [100, 101, 110, 121]) = da
      generalize hdb : (b.toList == [105, 110]) = db
      have N0 : Hid (Ru w (w2.alloc (.cells #[.bool ta, .bool tb, .int .i64 0, .int .i64 0, .int .i64 0] 42)).drew g w2.heap.size ta tb 0 0 0 a b c d) := (Ru.new R2.out d0 d1 d2 d3).drew
      clear d0 d1 d2 d3 hlt1 R2
      generalize (w2.alloc (.cells #[.bool ta, .bool tb, .int .i64 0, .int .i64 0, .int .i64 0] 42)).drew = W0 at *
      generalize w2.heap.size = rb at *
      have x0 := N0.out.a0
      have x1 := N0.out.a1
      go_upto_region 5 with fail
      go_cut [43] (fun s43 wx => s43 = .bool ((!ta && !da) || (!tb && !db)) ∧ W0 = wx)
      case first =>
        have HTA : Hid ((a.toList == [97, 108, 108, 111, 119]) = ta) := hta
        cases ta <;> cases da <;> cases tb <;> cases db
        all_goals
          go_wp2_with fail
          all_goals go_meet
          all_goals exact ⟨rfl, rfl⟩
      obtain ⟨rfl, rfl⟩ := hcut
      have HTA : Hid ((a.toList == [97, 108, 108, 111, 119]) = ta) := hta
      have HDA : Hid ((a.toList == [100, 101, 110, 121]) = da) := hda
      have HTB : Hid ((b.toList == [111, 117, 116]) = tb) := htb
      have HDB : Hid ((b.toList == [105, 110]) = db) := hdb
      clear hta hda htb hdb x0 x1
      by_cases hp : ((!ta && !da) || (!tb && !db)) = true
      · have HE : Hid (rdL x = none) := by
          show _ = _
          rw [HQ.out]
          cases ta <;> cases da
          · exact rd4_a (name_a0 HTA.out HDA.out)
          all_goals
            cases tb <;> cases db <;> simp at hp
            exact rd4_b (name_b0 HTB.out HDB.out)
        have c0 := N0.out.r.c0
        have c1 := N0.out.r.c1
        have c2 := N0.out.r.c2
        have c3 := N0.out.r.c3
        have c4 := N0.out.r.c4
        have f0 := N0.out.r.f0
        have f1 := N0.out.r.f1
        have f2 := N0.out.r.f2
        have f3 := N0.out.r.f3
        have f4 := N0.out.r.f4
        rw [hp]
        clear hp
        go_wp2_with fail
        exact bodyPost_ret (v := .tuple #[zeroR, .bool false]) (by simp [results, Tryz.results25, go_sem, c0, c1, c2, c3, c4]) rfl ⟨.inr ⟨HE.out, ⟨false, false, 0, 0, 0⟩, rfl⟩, by
          repeat (first | exact N0.out.r.b | refine Below.setCell ?_ (by exact Nat.le_refl _) _)⟩
      have hp2 : ((!ta && !da) || (!tb && !db)) = false := by simpa using hp
      have hp3 : (ta = true ∨ da = true) ∧ (tb = true ∨ db = true) := by
        revert hp2
        cases ta <;> cases da <;> cases tb <;> cases db <;> simp
      obtain ⟨i, hi1, hi2⟩ := name_a HTA.out HDA.out hp3.1
      obtain ⟨j, hj1, hj2⟩ := name_b HTB.out HDB.out hp3.2
      have HI : Hid (nameOf 0 a = some i ∧ (i == 1) = ta) := ⟨hi1, hi2⟩
      have HJ : Hid (nameOf 1 b = some j ∧ (j == 1) = tb) := ⟨hj1, hj2⟩
      rw [hp2]
      clear hp hp2 hp3 hi1 hi2 hj1 hj2 HTA HDA HTB HDB
      have x2 := N0.out.a2
      rcases rd4_name2 (x := c) with ⟨k, hk1, hk2, hk3⟩ | ⟨hk1, e0, e1, e2⟩
      · have HK : Hid (nameOf 2 c = some k) := hk1
        have m2 := N0.out.m2
        have q2 := N0.out.q2
        have hk : (k = 0 ∧ c = ⟨#[97, 110, 121]⟩) ∨ (k = 1 ∧ c = ⟨#[117, 100, 112]⟩) ∨ (k = 2 ∧ c = ⟨#[116, 99, 112]⟩) := by
          match k, hk2, hk3 with
          | 0, _, h => exact .inl ⟨rfl, h⟩
          | 1, _, h => exact .inr (.inl ⟨rfl, h⟩)
          | 2, _, h => exact .inr (.inr ⟨rfl, h⟩)
        clear hk1 hk2 hk3
        rcases hk with ⟨rfl, rfl⟩ | ⟨rfl, rfl⟩ | ⟨rfl, rfl⟩
        · have x3 := N0.out.a3
          have hn1 := N0.out.n1
          go_wp2_with fail
          refine (cutRef_big d zd 45 _).mono ?_
          rintro e w4 ⟨⟨g2, cap2, rfl, hc4⟩, hb4⟩
          have N1 : Hid (Ru w w4 g rb ta tb 0 0 0 a b ⟨#[97, 110, 121]⟩ d) := (N0.out.set2 0).below hb4
          have HC4 : Hid (∀ (j : Nat) z, (cutFrom 45 [] d.data.toList)[j]? = some z → w4.cell? ⟨g2, j, none⟩ = some (.string z)) := hc4
          have hlen2 : (cutFrom 45 [] d.data.toList).length ≤ 4001 := by
            have := words_le d 45
            rw [words_eq] at this
            omega
          clear hc4 hb4 x2 x3 m2 q2 hn1 N0
          by_cases h2 : (cutFrom 45 [] d.data.toList).length = 2
          · obtain ⟨ps, hps⟩ : ∃ ps, ps = cutFrom 45 [] d.data.toList := ⟨_, rfl⟩
            rw [← hps] at h2 HC4 hlen2 ⊢
            match ps, h2 with
            | [u, v], _ =>
              have HT2 : Hid (two d.data.toList = if 0 ≤ numOf u.data.toList 5 ∧ 0 ≤ numOf v.data.toList 5 then some (numOf u.data.toList 5, numOf v.data.toList 5) else none) := two_pair hps
              clear hps hlen2
              have y0 := HC4.out 0 u rfl
              have y1 := HC4.out 1 v rfl
              have hgr : g2 ≠ rb := fun e => by subst e; have h1 := N1.out.m0; rw [y0] at h1; cases h1
              have m3 := N1.out.m3
              have q3 := N1.out.q3
              have m4 := N1.out.m4
              have q4 := N1.out.q4
              clear HC4
              go_wp2_with fail
              refine (numberOf_any u 5 (by omega) (by omega) _).mono ?_
              rintro e w5 ⟨rfl, rfl⟩
              go_wp2_with fail
              refine (numberOf_any v 5 (by omega) (by omega) _).mono ?_
              rintro e w6 ⟨rfl, rfl⟩
              generalize hlo : numOf u.data.toList 5 = lo at *
              generalize htp : numOf v.data.toList 5 = tp at *
              clear hlo htp
              go_wp2_with fail
              have N2 : Hid (Ru w ((w5.setCell ⟨rb, 3, none⟩ (.int .i64 lo)).setCell ⟨rb, 4, none⟩ (.int .i64 tp)) g rb ta tb 0 lo tp a b ⟨#[97, 110, 121]⟩ d) := (N1.out.set3 lo).set4 tp
              clear m3 q3 m4 q4 y0 y1 hgr N1
              generalize (w5.setCell ⟨rb, 3, none⟩ (.int .i64 lo)).setCell ⟨rb, 4, none⟩ (.int .i64 tp) = W6 at *
              have c0 := N2.out.r.c0
              have c1 := N2.out.r.c1
              have c2 := N2.out.r.c2
              have c3 := N2.out.r.c3
              have c4 := N2.out.r.c4
              have f0 := N2.out.r.f0
              have f1 := N2.out.r.f1
              have f2 := N2.out.r.f2
              have f3 := N2.out.r.f3
              have f4 := N2.out.r.f4
              have m0 := N2.out.m0
              have m1 := N2.out.m1
              have m2 := N2.out.m2
              have m3 := N2.out.m3
              have m4 := N2.out.m4
              have hn2 := N2.out.n2
              by_cases hlo : 0 ≤ lo
              · by_cases htp : 0 ≤ tp
                · have HR : Hid (rdL x = some ⟨ta, tb, 0, lo, tp⟩) := by
                    show _ = _
                    have h := HT2.out
                    rw [if_pos ⟨hlo, htp⟩] at h
                    rw [HQ.out, rd4_ok HI.out.1 HJ.out.1 HK.out h, HI.out.2, HJ.out.2]
                    rfl
                  go_region
                  all_goals go_wp2_with fail
                  all_goals exact bodyPost_ret (v := .tuple #[.agg #[.bool ta, .bool tb, .int .i64 0, .int .i64 lo, .int .i64 tp], .bool true]) (by simp [results, Tryz.results25, go_sem, c0, c1, c2, c3, c4]) rfl ⟨.inl ⟨_, HR.out, rfl⟩, by
                    repeat (first | exact N2.out.r.b.drew | exact N2.out.r.b | refine Below.drew ?_ | refine Below.setCell ?_ (by exact Nat.le_refl _) _)⟩
                · have htp' : decide (0 ≤ tp) = false := decide_eq_false htp
                  have HR : Hid (rdL x = none) := by
                    show _ = _
                    have h := HT2.out
                    rw [if_neg (fun hh => htp hh.2)] at h
                    rw [HQ.out, rd4_d h]
                  clear htp
                  go_region
                  all_goals go_wp2_with fail
                  all_goals exact bodyPost_ret (v := .tuple #[.agg #[.bool ta, .bool tb, .int .i64 0, .int .i64 lo, .int .i64 tp], .bool false]) (by simp [results, Tryz.results25, go_sem, c0, c1, c2, c3, c4]) rfl ⟨.inr ⟨HR.out, ⟨ta, tb, 0, lo, tp⟩, rfl⟩, by
                    repeat (first | exact N2.out.r.b.drew | exact N2.out.r.b | refine Below.drew ?_ | refine Below.setCell ?_ (by exact Nat.le_refl _) _)⟩
              · have hlo' : decide (0 ≤ lo) = false := decide_eq_false hlo
                have HR : Hid (rdL x = none) := by
                  show _ = _
                  have h := HT2.out
                  rw [if_neg (fun hh => hlo hh.1)] at h
                  rw [HQ.out, rd4_d h]
                clear hlo
                go_region
                all_goals go_wp2_with fail
                all_goals exact bodyPost_ret (v := .tuple #[.agg #[.bool ta, .bool tb, .int .i64 0, .int .i64 lo, .int .i64 tp], .bool false]) (by simp [results, Tryz.results25, go_sem, c0, c1, c2, c3, c4]) rfl ⟨.inr ⟨HR.out, ⟨ta, tb, 0, lo, tp⟩, rfl⟩, by
                  repeat (first | exact N2.out.r.b.drew | exact N2.out.r.b | refine Below.drew ?_ | refine Below.setCell ?_ (by exact Nat.le_refl _) _)⟩
          · have HE : Hid (rdL x = none) := HQ.out.trans (rd4_d (two_odd h2))
            have hne2 : (((cutFrom 45 [] d.data.toList).length : Int) != 2) = true := by rw [bne_iff_ne]; omega
            have c0 := N1.out.r.c0
            have c1 := N1.out.r.c1
            have c2 := N1.out.r.c2
            have c3 := N1.out.r.c3
            have c4 := N1.out.r.c4
            have f0 := N1.out.r.f0
            have f1 := N1.out.r.f1
            have f2 := N1.out.r.f2
            have f3 := N1.out.r.f3
            have f4 := N1.out.r.f4
            clear h2 HC4
            generalize (cutFrom 45 [] d.data.toList).length = N4 at *
            go_wp2_with fail
            exact bodyPost_ret (v := .tuple #[zeroR, .bool false]) (by simp [results, Tryz.results25, go_sem, c0, c1, c2, c3, c4]) rfl ⟨.inr ⟨HE.out, ⟨false, false, 0, 0, 0⟩, rfl⟩, by
              repeat (first | exact N1.out.r.b | refine Below.setCell ?_ (by exact Nat.le_refl _) _)⟩
        · have x3 := N0.out.a3
          have hn1 := N0.out.n1
          go_wp2_with fail
          refine (cutRef_big d zd 45 _).mono ?_
          rintro e w4 ⟨⟨g2, cap2, rfl, hc4⟩, hb4⟩
          have N1 : Hid (Ru w w4 g rb ta tb 1 0 0 a b ⟨#[117, 100, 112]⟩ d) := (N0.out.set2 1).below hb4
          have HC4 : Hid (∀ (j : Nat) z, (cutFrom 45 [] d.data.toList)[j]? = some z → w4.cell? ⟨g2, j, none⟩ = some (.string z)) := hc4
          have hlen2 : (cutFrom 45 [] d.data.toList).length ≤ 4001 := by
            have := words_le d 45
            rw [words_eq] at this
            omega
          clear hc4 hb4 x2 x3 m2 q2 hn1 N0
          by_cases h2 : (cutFrom 45 [] d.data.toList).length = 2
          · obtain ⟨ps, hps⟩ : ∃ ps, ps = cutFrom 45 [] d.data.toList := ⟨_, rfl⟩
            rw [← hps] at h2 HC4 hlen2 ⊢
            match ps, h2 with
            | [u, v], _ =>
              have HT2 : Hid (two d.data.toList = if 0 ≤ numOf u.data.toList 5 ∧ 0 ≤ numOf v.data.toList 5 then some (numOf u.data.toList 5, numOf v.data.toList 5) else none) := two_pair hps
              clear hps hlen2
              have y0 := HC4.out 0 u rfl
              have y1 := HC4.out 1 v rfl
              have hgr : g2 ≠ rb := fun e => by subst e; have h1 := N1.out.m0; rw [y0] at h1; cases h1
              have m3 := N1.out.m3
              have q3 := N1.out.q3
              have m4 := N1.out.m4
              have q4 := N1.out.q4
              clear HC4
              go_wp2_with fail
              refine (numberOf_any u 5 (by omega) (by omega) _).mono ?_
              rintro e w5 ⟨rfl, rfl⟩
              go_wp2_with fail
              refine (numberOf_any v 5 (by omega) (by omega) _).mono ?_
              rintro e w6 ⟨rfl, rfl⟩
              generalize hlo : numOf u.data.toList 5 = lo at *
              generalize htp : numOf v.data.toList 5 = tp at *
              clear hlo htp
              go_wp2_with fail
              have N2 : Hid (Ru w ((w5.setCell ⟨rb, 3, none⟩ (.int .i64 lo)).setCell ⟨rb, 4, none⟩ (.int .i64 tp)) g rb ta tb 1 lo tp a b ⟨#[117, 100, 112]⟩ d) := (N1.out.set3 lo).set4 tp
              clear m3 q3 m4 q4 y0 y1 hgr N1
              generalize (w5.setCell ⟨rb, 3, none⟩ (.int .i64 lo)).setCell ⟨rb, 4, none⟩ (.int .i64 tp) = W6 at *
              have c0 := N2.out.r.c0
              have c1 := N2.out.r.c1
              have c2 := N2.out.r.c2
              have c3 := N2.out.r.c3
              have c4 := N2.out.r.c4
              have f0 := N2.out.r.f0
              have f1 := N2.out.r.f1
              have f2 := N2.out.r.f2
              have f3 := N2.out.r.f3
              have f4 := N2.out.r.f4
              have m0 := N2.out.m0
              have m1 := N2.out.m1
              have m2 := N2.out.m2
              have m3 := N2.out.m3
              have m4 := N2.out.m4
              have hn2 := N2.out.n2
              by_cases hlo : 0 ≤ lo
              · by_cases htp : 0 ≤ tp
                · have HR : Hid (rdL x = some ⟨ta, tb, 1, lo, tp⟩) := by
                    show _ = _
                    have h := HT2.out
                    rw [if_pos ⟨hlo, htp⟩] at h
                    rw [HQ.out, rd4_ok HI.out.1 HJ.out.1 HK.out h, HI.out.2, HJ.out.2]
                    rfl
                  go_region
                  all_goals go_wp2_with fail
                  all_goals exact bodyPost_ret (v := .tuple #[.agg #[.bool ta, .bool tb, .int .i64 1, .int .i64 lo, .int .i64 tp], .bool true]) (by simp [results, Tryz.results25, go_sem, c0, c1, c2, c3, c4]) rfl ⟨.inl ⟨_, HR.out, rfl⟩, by
                    repeat (first | exact N2.out.r.b.drew | exact N2.out.r.b | refine Below.drew ?_ | refine Below.setCell ?_ (by exact Nat.le_refl _) _)⟩
                · have htp' : decide (0 ≤ tp) = false := decide_eq_false htp
                  have HR : Hid (rdL x = none) := by
                    show _ = _
                    have h := HT2.out
                    rw [if_neg (fun hh => htp hh.2)] at h
                    rw [HQ.out, rd4_d h]
                  clear htp
                  go_region
                  all_goals go_wp2_with fail
                  all_goals exact bodyPost_ret (v := .tuple #[.agg #[.bool ta, .bool tb, .int .i64 1, .int .i64 lo, .int .i64 tp], .bool false]) (by simp [results, Tryz.results25, go_sem, c0, c1, c2, c3, c4]) rfl ⟨.inr ⟨HR.out, ⟨ta, tb, 1, lo, tp⟩, rfl⟩, by
                    repeat (first | exact N2.out.r.b.drew | exact N2.out.r.b | refine Below.drew ?_ | refine Below.setCell ?_ (by exact Nat.le_refl _) _)⟩
              · have hlo' : decide (0 ≤ lo) = false := decide_eq_false hlo
                have HR : Hid (rdL x = none) := by
                  show _ = _
                  have h := HT2.out
                  rw [if_neg (fun hh => hlo hh.1)] at h
                  rw [HQ.out, rd4_d h]
                clear hlo
                go_region
                all_goals go_wp2_with fail
                all_goals exact bodyPost_ret (v := .tuple #[.agg #[.bool ta, .bool tb, .int .i64 1, .int .i64 lo, .int .i64 tp], .bool false]) (by simp [results, Tryz.results25, go_sem, c0, c1, c2, c3, c4]) rfl ⟨.inr ⟨HR.out, ⟨ta, tb, 1, lo, tp⟩, rfl⟩, by
                  repeat (first | exact N2.out.r.b.drew | exact N2.out.r.b | refine Below.drew ?_ | refine Below.setCell ?_ (by exact Nat.le_refl _) _)⟩
          · have HE : Hid (rdL x = none) := HQ.out.trans (rd4_d (two_odd h2))
            have hne2 : (((cutFrom 45 [] d.data.toList).length : Int) != 2) = true := by rw [bne_iff_ne]; omega
            have c0 := N1.out.r.c0
            have c1 := N1.out.r.c1
            have c2 := N1.out.r.c2
            have c3 := N1.out.r.c3
            have c4 := N1.out.r.c4
            have f0 := N1.out.r.f0
            have f1 := N1.out.r.f1
            have f2 := N1.out.r.f2
            have f3 := N1.out.r.f3
            have f4 := N1.out.r.f4
            clear h2 HC4
            generalize (cutFrom 45 [] d.data.toList).length = N4 at *
            go_wp2_with fail
            exact bodyPost_ret (v := .tuple #[zeroR, .bool false]) (by simp [results, Tryz.results25, go_sem, c0, c1, c2, c3, c4]) rfl ⟨.inr ⟨HE.out, ⟨false, false, 0, 0, 0⟩, rfl⟩, by
              repeat (first | exact N1.out.r.b | refine Below.setCell ?_ (by exact Nat.le_refl _) _)⟩
        · have x3 := N0.out.a3
          have hn1 := N0.out.n1
          go_wp2_with fail
          refine (cutRef_big d zd 45 _).mono ?_
          rintro e w4 ⟨⟨g2, cap2, rfl, hc4⟩, hb4⟩
          have N1 : Hid (Ru w w4 g rb ta tb 2 0 0 a b ⟨#[116, 99, 112]⟩ d) := (N0.out.set2 2).below hb4
          have HC4 : Hid (∀ (j : Nat) z, (cutFrom 45 [] d.data.toList)[j]? = some z → w4.cell? ⟨g2, j, none⟩ = some (.string z)) := hc4
          have hlen2 : (cutFrom 45 [] d.data.toList).length ≤ 4001 := by
            have := words_le d 45
            rw [words_eq] at this
            omega
          clear hc4 hb4 x2 x3 m2 q2 hn1 N0
          by_cases h2 : (cutFrom 45 [] d.data.toList).length = 2
          · obtain ⟨ps, hps⟩ : ∃ ps, ps = cutFrom 45 [] d.data.toList := ⟨_, rfl⟩
            rw [← hps] at h2 HC4 hlen2 ⊢
            match ps, h2 with
            | [u, v], _ =>
              have HT2 : Hid (two d.data.toList = if 0 ≤ numOf u.data.toList 5 ∧ 0 ≤ numOf v.data.toList 5 then some (numOf u.data.toList 5, numOf v.data.toList 5) else none) := two_pair hps
              clear hps hlen2
              have y0 := HC4.out 0 u rfl
              have y1 := HC4.out 1 v rfl
              have hgr : g2 ≠ rb := fun e => by subst e; have h1 := N1.out.m0; rw [y0] at h1; cases h1
              have m3 := N1.out.m3
              have q3 := N1.out.q3
              have m4 := N1.out.m4
              have q4 := N1.out.q4
              clear HC4
              go_wp2_with fail
              refine (numberOf_any u 5 (by omega) (by omega) _).mono ?_
              rintro e w5 ⟨rfl, rfl⟩
              go_wp2_with fail
              refine (numberOf_any v 5 (by omega) (by omega) _).mono ?_
              rintro e w6 ⟨rfl, rfl⟩
              generalize hlo : numOf u.data.toList 5 = lo at *
              generalize htp : numOf v.data.toList 5 = tp at *
              clear hlo htp
              go_wp2_with fail
              have N2 : Hid (Ru w ((w5.setCell ⟨rb, 3, none⟩ (.int .i64 lo)).setCell ⟨rb, 4, none⟩ (.int .i64 tp)) g rb ta tb 2 lo tp a b ⟨#[116, 99, 112]⟩ d) := (N1.out.set3 lo).set4 tp
              clear m3 q3 m4 q4 y0 y1 hgr N1
              generalize (w5.setCell ⟨rb, 3, none⟩ (.int .i64 lo)).setCell ⟨rb, 4, none⟩ (.int .i64 tp) = W6 at *
              have c0 := N2.out.r.c0
              have c1 := N2.out.r.c1
              have c2 := N2.out.r.c2
              have c3 := N2.out.r.c3
              have c4 := N2.out.r.c4
              have f0 := N2.out.r.f0
              have f1 := N2.out.r.f1
              have f2 := N2.out.r.f2
              have f3 := N2.out.r.f3
              have f4 := N2.out.r.f4
              have m0 := N2.out.m0
              have m1 := N2.out.m1
              have m2 := N2.out.m2
              have m3 := N2.out.m3
              have m4 := N2.out.m4
              have hn2 := N2.out.n2
              by_cases hlo : 0 ≤ lo
              · by_cases htp : 0 ≤ tp
                · have HR : Hid (rdL x = some ⟨ta, tb, 2, lo, tp⟩) := by
                    show _ = _
                    have h := HT2.out
                    rw [if_pos ⟨hlo, htp⟩] at h
                    rw [HQ.out, rd4_ok HI.out.1 HJ.out.1 HK.out h, HI.out.2, HJ.out.2]
                    rfl
                  go_region
                  all_goals go_wp2_with fail
                  all_goals exact bodyPost_ret (v := .tuple #[.agg #[.bool ta, .bool tb, .int .i64 2, .int .i64 lo, .int .i64 tp], .bool true]) (by simp [results, Tryz.results25, go_sem, c0, c1, c2, c3, c4]) rfl ⟨.inl ⟨_, HR.out, rfl⟩, by
                    repeat (first | exact N2.out.r.b.drew | exact N2.out.r.b | refine Below.drew ?_ | refine Below.setCell ?_ (by exact Nat.le_refl _) _)⟩
                · have htp' : decide (0 ≤ tp) = false := decide_eq_false htp
                  have HR : Hid (rdL x = none) := by
                    show _ = _
                    have h := HT2.out
                    rw [if_neg (fun hh => htp hh.2)] at h
                    rw [HQ.out, rd4_d h]
                  clear htp
                  go_region
                  all_goals go_wp2_with fail
                  all_goals exact bodyPost_ret (v := .tuple #[.agg #[.bool ta, .bool tb, .int .i64 2, .int .i64 lo, .int .i64 tp], .bool false]) (by simp [results, Tryz.results25, go_sem, c0, c1, c2, c3, c4]) rfl ⟨.inr ⟨HR.out, ⟨ta, tb, 2, lo, tp⟩, rfl⟩, by
                    repeat (first | exact N2.out.r.b.drew | exact N2.out.r.b | refine Below.drew ?_ | refine Below.setCell ?_ (by exact Nat.le_refl _) _)⟩
              · have hlo' : decide (0 ≤ lo) = false := decide_eq_false hlo
                have HR : Hid (rdL x = none) := by
                  show _ = _
                  have h := HT2.out
                  rw [if_neg (fun hh => hlo hh.1)] at h
                  rw [HQ.out, rd4_d h]
                clear hlo
                go_region
                all_goals go_wp2_with fail
                all_goals exact bodyPost_ret (v := .tuple #[.agg #[.bool ta, .bool tb, .int .i64 2, .int .i64 lo, .int .i64 tp], .bool false]) (by simp [results, Tryz.results25, go_sem, c0, c1, c2, c3, c4]) rfl ⟨.inr ⟨HR.out, ⟨ta, tb, 2, lo, tp⟩, rfl⟩, by
                  repeat (first | exact N2.out.r.b.drew | exact N2.out.r.b | refine Below.drew ?_ | refine Below.setCell ?_ (by exact Nat.le_refl _) _)⟩
          · have HE : Hid (rdL x = none) := HQ.out.trans (rd4_d (two_odd h2))
            have hne2 : (((cutFrom 45 [] d.data.toList).length : Int) != 2) = true := by rw [bne_iff_ne]; omega
            have c0 := N1.out.r.c0
            have c1 := N1.out.r.c1
            have c2 := N1.out.r.c2
            have c3 := N1.out.r.c3
            have c4 := N1.out.r.c4
            have f0 := N1.out.r.f0
            have f1 := N1.out.r.f1
            have f2 := N1.out.r.f2
            have f3 := N1.out.r.f3
            have f4 := N1.out.r.f4
            clear h2 HC4
            generalize (cutFrom 45 [] d.data.toList).length = N4 at *
            go_wp2_with fail
            exact bodyPost_ret (v := .tuple #[zeroR, .bool false]) (by simp [results, Tryz.results25, go_sem, c0, c1, c2, c3, c4]) rfl ⟨.inr ⟨HE.out, ⟨false, false, 0, 0, 0⟩, rfl⟩, by
              repeat (first | exact N1.out.r.b | refine Below.setCell ?_ (by exact Nat.le_refl _) _)⟩
      · have HE : Hid (rdL x = none) := HQ.out.trans (rd4_c hk1)
        have t0 : (c.toList == [97, 110, 121]) = false := lits e0
        have t1 : (c.toList == [117, 100, 112]) = false := lits e1
        have t2 : (c.toList == [116, 99, 112]) = false := lits e2
        clear hk1 e0 e1 e2
        have c0 := N0.out.r.c0
        have c1 := N0.out.r.c1
        have c2 := N0.out.r.c2
        have c3 := N0.out.r.c3
        have c4 := N0.out.r.c4
        have f0 := N0.out.r.f0
        have f1 := N0.out.r.f1
        have f2 := N0.out.r.f2
        have f3 := N0.out.r.f3
        have f4 := N0.out.r.f4
        go_wp2_with fail
        exact bodyPost_ret (v := .tuple #[zeroR, .bool false]) (by simp [results, Tryz.results25, go_sem, c0, c1, c2, c3, c4]) rfl ⟨.inr ⟨HE.out, ⟨false, false, 0, 0, 0⟩, rfl⟩, by
          repeat (first | exact N0.out.r.b | refine Below.setCell ?_ (by exact Nat.le_refl _) _)⟩
  · have HE : Hid (rdL x = none) := rdL_odd h4
    have hne : (((cutFrom 32 [] x.data.toList).length : Int) != 4) = true := by rw [bne_iff_ne]; omega
    have c0 := R2.out.c0
    have c1 := R2.out.c1
    have c2 := R2.out.c2
    have c3 := R2.out.c3
    have c4 := R2.out.c4
    have f0 := R2.out.f0
    have f1 := R2.out.f1
    have f2 := R2.out.f2
    have f3 := R2.out.f3
    have f4 := R2.out.f4
    clear h4 HC HZ
    generalize (cutFrom 32 [] x.data.toList).length = N4 at *
    go_wp2_with fail
    exact bodyPost_ret (v := .tuple #[zeroR, .bool false]) (by simp [results, Tryz.results25, go_sem, c0, c1, c2, c3, c4]) rfl ⟨.inr ⟨HE.out, ⟨false, false, 0, 0, 0⟩, rfl⟩, by
      repeat (first | exact R2.out.b | refine Below.setCell ?_ (by exact Nat.le_refl _) _)⟩
end Go.Proofs.YtpmoamfhppmicaaGreatDoor
