/-
  Package policy's readLine.
-/
import Derived.Test.YtpmoamfhppmicaaGreatDoorRdA
namespace Go.Proofs.YtpmoamfhppmicaaGreatDoor
open Go.RowKit

abbrev rlV (r : Rl) : Value := .agg #[.bool r.al, .bool r.ou, .int .i64 r.pr, .int .i64 r.lo, .int .i64 r.tp]
abbrev zeroR : Value := .agg #[.bool false, .bool false, .int .i64 0, .int .i64 0, .int .i64 0]
/-- the result's place: a rule. -/
structure Rs5 (w W : World) : Prop where
  c0 : W.cell? ⟨w.heap.size, 0, none⟩ = some (.bool false)
  c1 : W.cell? ⟨w.heap.size, 1, none⟩ = some (.bool false)
  c2 : W.cell? ⟨w.heap.size, 2, none⟩ = some (.int .i64 0)
  c3 : W.cell? ⟨w.heap.size, 3, none⟩ = some (.int .i64 0)
  c4 : W.cell? ⟨w.heap.size, 4, none⟩ = some (.int .i64 0)
  f0 : W.frozen? ⟨w.heap.size, 0, none⟩ = false
  f1 : W.frozen? ⟨w.heap.size, 1, none⟩ = false
  f2 : W.frozen? ⟨w.heap.size, 2, none⟩ = false
  f3 : W.frozen? ⟨w.heap.size, 3, none⟩ = false
  f4 : W.frozen? ⟨w.heap.size, 4, none⟩ = false
  b : Below w.heap.size w W
theorem fk {w w' : World} (h : Below w.heap.size w w') {a : Addr} {v : Value} (hc : w.cell? a = some v) (hf : w.frozen? a = false) : w'.frozen? a = false := by
  rw [h.frozen (p := a) (cell_lt hc)]; exact hf
theorem Rs5.below {w W W' : World} (h : Rs5 w W) (hb : Below W.heap.size W W') : Rs5 w W' :=
  ⟨Below.keeps hb h.c0, Below.keeps hb h.c1, Below.keeps hb h.c2, Below.keeps hb h.c3, Below.keeps hb h.c4, fk hb h.c0 h.f0, fk hb h.c1 h.f1, fk hb h.c2 h.f2, fk hb h.c3 h.f3, fk hb h.c4 h.f4, below2 h.b hb⟩
theorem Rs5.new (w : World) : Rs5 w (w.alloc (.cells #[.bool false, .bool false, .int .i64 0, .int .i64 0, .int .i64 0] 42)) :=
  ⟨by simp, by simp, by simp, by simp, by simp, by rw [World.frozen?_alloc_at _ _ _ _ rfl], by rw [World.frozen?_alloc_at _ _ _ _ rfl], by rw [World.frozen?_alloc_at _ _ _ _ rfl], by rw [World.frozen?_alloc_at _ _ _ _ rfl], by rw [World.frozen?_alloc_at _ _ _ _ rfl], (Below.refl _ _).alloc (Nat.le_refl _) _⟩
theorem name0 (x : ByteArray) (q : Option Nat) (h : nameOf 0 x = q) (w : World) (N : PNm w) : Calls Tryz.prog 35 #[.int .i64 0, .string x] w fun e w' => e = .returned (.tuple #[.int .i64 ((q.getD 0 : Nat) : Int), .bool q.isSome]) ∧ w' = w := by
  subst h; exact name_any 0 (by omega) x w N
theorem name1 (x : ByteArray) (q : Option Nat) (h : nameOf 1 x = q) (w : World) (N : PNm w) : Calls Tryz.prog 35 #[.int .i64 1, .string x] w fun e w' => e = .returned (.tuple #[.int .i64 ((q.getD 0 : Nat) : Int), .bool q.isSome]) ∧ w' = w := by
  subst h; exact name_any 1 (by omega) x w N
theorem name2 (x : ByteArray) (q : Option Nat) (h : nameOf 2 x = q) (w : World) (N : PNm w) : Calls Tryz.prog 35 #[.int .i64 2, .string x] w fun e w' => e = .returned (.tuple #[.int .i64 ((q.getD 0 : Nat) : Int), .bool q.isSome]) ∧ w' = w := by
  subst h; exact name_any 2 (by omega) x w N
theorem number_any (l : List UInt8) (hx : l.length ≤ 4000) (n : Int) (ok : Bool) (h : (0 ≤ numOf l 5 ∧ n = numOf l 5 ∧ ok = true) ∨ (numOf l 5 < 0 ∧ n = 0 ∧ ok = false)) (w : World) (L : Libs w) (T : Pow w) :
    Calls Tryz.prog 37 #[.string ⟨l.toArray⟩] w fun e w' => e = .returned (.tuple #[.int .i64 n, .bool ok]) ∧ Below w.heap.size w w' := by
  have hz : (⟨l.toArray⟩ : ByteArray).size ≤ 4000 := by simpa [ByteArray.size] using hx
  rcases h with ⟨h1, rfl, rfl⟩ | ⟨h1, rfl, rfl⟩
  · exact number_yes ⟨l.toArray⟩ hz _ rfl (by simpa using h1) w T
  · exact number_no ⟨l.toArray⟩ hz (by simpa using h1) w L T
theorem nameOf_lt {i : Nat} {x : ByteArray} {j : Nat} (h : nameOf i x = some j) : j < 3 := by
  unfold nameOf at h
  split at h
  · cases h; omega
  · split at h
    · cases h; omega
    · split at h
      · cases h; omega
      · cases h
theorem nat_one (i : Nat) : ((i : Int) == 1) = (i == 1) := by rw [Bool.eq_iff_iff, beq_iff_eq, beq_iff_eq]; omega
theorem num_part (l : List UInt8) : ∃ n ok, (0 ≤ numOf l 5 ∧ n = numOf l 5 ∧ ok = true) ∨ (numOf l 5 < 0 ∧ n = 0 ∧ ok = false) := by
  by_cases h : 0 ≤ numOf l 5
  · exact ⟨_, _, .inl ⟨h, rfl, rfl⟩⟩
  · exact ⟨_, _, .inr ⟨by omega, rfl, rfl⟩⟩
theorem two_none {d p1 p2 : List UInt8} {p3 : Bool} (h : Lib.cut d [45] = (p1, p2, p3)) (hn : numOf p1 5 < 0 ∨ numOf p2 5 < 0) : two d = none := by
  unfold two
  rw [h]
  exact if_neg (fun ⟨h1, h2⟩ => by simp only at h1 h2; omega)
theorem two_some {d p1 p2 : List UInt8} {p3 : Bool} (h : Lib.cut d [45] = (p1, p2, p3)) (h1 : 0 ≤ numOf p1 5) (h2 : 0 ≤ numOf p2 5) : two d = some (numOf p1 5, numOf p2 5) := by
  unfold two
  rw [h]
  exact if_pos ⟨h1, h2⟩
theorem ret_rl {i j : Nat} {k lo tp : Int} : Ending.returned (.tuple #[.agg #[.bool ((i : Int) == 1), .bool ((j : Int) == 1), .int .i64 k, .int .i64 lo, .int .i64 tp], .bool true]) = .returned (.tuple #[rlV ⟨i == 1, j == 1, k, lo, tp⟩, .bool true]) := by
  rw [nat_one, nat_one]
/-- what stands while a line is read: the result's place, the four words, the three numbers. -/
structure St (w W : World) (nb : Nat) (n0 n1 n2 : Int) (a b c d : ByteArray) : Prop where
  r : Rs5 w W
  a0 : W.cell? ⟨w.heap.size + 1, 0, none⟩ = some (.string a)
  a1 : W.cell? ⟨w.heap.size + 1, 1, none⟩ = some (.string b)
  a2 : W.cell? ⟨w.heap.size + 1, 2, none⟩ = some (.string c)
  a3 : W.cell? ⟨w.heap.size + 1, 3, none⟩ = some (.string d)
  m0 : W.cell? ⟨nb, 0, none⟩ = some (.int .i64 n0)
  m1 : W.cell? ⟨nb, 1, none⟩ = some (.int .i64 n1)
  m2 : W.cell? ⟨nb, 2, none⟩ = some (.int .i64 n2)
  g0 : W.frozen? ⟨nb, 0, none⟩ = false
  g1 : W.frozen? ⟨nb, 1, none⟩ = false
  g2 : W.frozen? ⟨nb, 2, none⟩ = false
  n : w.heap.size + 1 < nb
theorem St.below {w W W' : World} {nb : Nat} {n0 n1 n2 : Int} {a b c d : ByteArray} (h : St w W nb n0 n1 n2 a b c d) (hb : Below W.heap.size W W') : St w W' nb n0 n1 n2 a b c d :=
  ⟨h.r.below hb, Below.keeps hb h.a0, Below.keeps hb h.a1, Below.keeps hb h.a2, Below.keeps hb h.a3, Below.keeps hb h.m0, Below.keeps hb h.m1, Below.keeps hb h.m2, fk hb h.m0 h.g0, fk hb h.m1 h.g1, fk hb h.m2 h.g2, h.n⟩
theorem set_far {W : World} {nb i k j : Nat} {x v : Value} (hn : k < nb) (h : W.cell? ⟨k, j, none⟩ = some v) : (W.setCell ⟨nb, i, none⟩ x).cell? ⟨k, j, none⟩ = some v := by
  rw [World.cell?_setCell_other _ _ _ _ (fun e => by have := congrArg Addr.block e; simp at this; omega)]; exact h
theorem set_off {W : World} {nb i j : Nat} {x v : Value} (hn : i ≠ j) (h : W.cell? ⟨nb, j, none⟩ = some v) : (W.setCell ⟨nb, i, none⟩ x).cell? ⟨nb, j, none⟩ = some v := by
  rw [World.cell?_setCell_other _ _ _ _ (fun e => hn (congrArg Addr.off e))]; exact h
theorem set_fr {W : World} {p q : Addr} {x : Value} (h : W.frozen? q = false) : (W.setCell p x).frozen? q = false := by rw [World.frozen?_setCell]; exact h
theorem Rs5.set {w W : World} {nb i : Nat} {x : Value} (h : Rs5 w W) (hn : w.heap.size < nb) : Rs5 w (W.setCell ⟨nb, i, none⟩ x) :=
  ⟨set_far hn h.c0, set_far hn h.c1, set_far hn h.c2, set_far hn h.c3, set_far hn h.c4, set_fr h.f0, set_fr h.f1, set_fr h.f2, set_fr h.f3, set_fr h.f4, h.b.setCell (by simp; omega) _⟩
theorem St.set0 {w W : World} {nb : Nat} {n0 n1 n2 : Int} {a b c d : ByteArray} (h : St w W nb n0 n1 n2 a b c d) (x : Int) : St w (W.setCell ⟨nb, 0, none⟩ (.int .i64 x)) nb x n1 n2 a b c d :=
  ⟨h.r.set (by have := h.n; omega), set_far h.n h.a0, set_far h.n h.a1, set_far h.n h.a2, set_far h.n h.a3, World.cell?_setCell_same _ _ _ h.m0, set_off (by omega) h.m1, set_off (by omega) h.m2, set_fr h.g0, set_fr h.g1, set_fr h.g2, h.n⟩
theorem St.set1 {w W : World} {nb : Nat} {n0 n1 n2 : Int} {a b c d : ByteArray} (h : St w W nb n0 n1 n2 a b c d) (x : Int) : St w (W.setCell ⟨nb, 1, none⟩ (.int .i64 x)) nb n0 x n2 a b c d :=
  ⟨h.r.set (by have := h.n; omega), set_far h.n h.a0, set_far h.n h.a1, set_far h.n h.a2, set_far h.n h.a3, set_off (by omega) h.m0, World.cell?_setCell_same _ _ _ h.m1, set_off (by omega) h.m2, set_fr h.g0, set_fr h.g1, set_fr h.g2, h.n⟩
theorem St.set2 {w W : World} {nb : Nat} {n0 n1 n2 : Int} {a b c d : ByteArray} (h : St w W nb n0 n1 n2 a b c d) (x : Int) : St w (W.setCell ⟨nb, 2, none⟩ (.int .i64 x)) nb n0 n1 x a b c d :=
  ⟨h.r.set (by have := h.n; omega), set_far h.n h.a0, set_far h.n h.a1, set_far h.n h.a2, set_far h.n h.a3, set_off (by omega) h.m0, set_off (by omega) h.m1, World.cell?_setCell_same _ _ _ h.m2, set_fr h.g0, set_fr h.g1, set_fr h.g2, h.n⟩
theorem St.new {w W : World} {a b c d : ByteArray} (r : Rs5 w W) (a0 : W.cell? ⟨w.heap.size + 1, 0, none⟩ = some (.string a)) (a1 : W.cell? ⟨w.heap.size + 1, 1, none⟩ = some (.string b)) (a2 : W.cell? ⟨w.heap.size + 1, 2, none⟩ = some (.string c)) (a3 : W.cell? ⟨w.heap.size + 1, 3, none⟩ = some (.string d)) :
    St w (W.alloc (.cells #[.int .i64 0, .int .i64 0, .int .i64 0] 70)) W.heap.size 0 0 0 a b c d := by
  have hb : Below W.heap.size W (W.alloc (.cells #[.int .i64 0, .int .i64 0, .int .i64 0] 70)) := (Below.refl _ _).alloc (Nat.le_refl _) _
  exact ⟨r.below hb, Below.keeps hb a0, Below.keeps hb a1, Below.keeps hb a2, Below.keeps hb a3, by simp, by simp, by simp, by rw [World.frozen?_alloc_at _ _ _ _ rfl], by rw [World.frozen?_alloc_at _ _ _ _ rfl], by rw [World.frozen?_alloc_at _ _ _ _ rfl], cell_lt a0⟩
set_option maxRecDepth 100000 in
set_option maxHeartbeats 4000000 in
theorem readLine_any (x : ByteArray) (hx : x.size ≤ 4000) (q : Option Rl) (hq : rdL x = q) (w : World) (L : Libs w) (T : Pow w) (N : PNm w) :
    Calls Tryz.prog 22 #[.string x] w fun e w' => ((∃ r, q = some r ∧ e = .returned (.tuple #[rlV r, .bool true])) ∨ (q = none ∧ e = .returned (.tuple #[zeroR, .bool false]))) ∧ Below w.heap.size w w' := by
  have HL : Hid (Libs w) := L
  have HT : Hid (Pow w) := T
  have HN : Hid (PNm w) := N
  have HQ : Hid (rdL x = q) := hq
  clear L T N hq
  have R0 : Hid (Rs5 w (w.alloc (.cells #[.bool false, .bool false, .int .i64 0, .int .i64 0, .int .i64 0] 42))) := Rs5.new w
  go_enter Tryz.func22, Tryz.ntmps22
  go_wp2_with fail
  refine (split_any x hx 32 _ (HL.out.below R0.out.b)).mono ?_
  rintro e w2 ⟨rfl, hc, hb2⟩
  have R2 : Hid (Rs5 w w2) := R0.out.below hb2
  rw [words_eq] at hc ⊢
  have HC : Hid (∀ (j : Nat) y, (cutFrom 32 [] x.data.toList)[j]? = some y → w2.cell? ⟨w.heap.size + 1, j, none⟩ = some (.string y)) := by
    intro j y hy
    have := hc j y hy
    simpa using this
  have HZ : Hid (∀ z ∈ cutFrom 32 [] x.data.toList, z.size ≤ x.size) := fun z hz => by
    have := cut_size 32 x.data.toList [] z hz
    rw [bytes_len] at this
    simpa using this
  have hlen : (cutFrom 32 [] x.data.toList).length ≤ 4001 := by
    have := words_le x 32
    rw [words_eq] at this
    omega
  clear hc hb2 R0
  by_cases h4 : (cutFrom 32 [] x.data.toList).length = 4
  · obtain ⟨ws, hws⟩ : ∃ ws, ws = cutFrom 32 [] x.data.toList := ⟨_, rfl⟩
    rw [← hws] at h4 HC HZ hlen ⊢
    match ws, h4 with
    | [a, b, c, d], _ =>
      have HQ3 : Hid (rd4 a b c d = q) := (rdL_four hws).symm.trans HQ.out
      clear hws
      have d0 := HC.out 0 a rfl
      have d1 := HC.out 1 b rfl
      have d2 := HC.out 2 c rfl
      have d3 := HC.out 3 d rfl
      have hlt1 : w.heap.size + 1 < w2.heap.size := cell_lt d0
      have hlt0 : w.heap.size < w2.heap.size := by omega
      have zd : d.size ≤ 4000 := by have := HZ.out d (by simp); omega
      clear HC HZ hlen
      go_wp2_with fail
      have S0 : Hid (St w (w2.alloc (.cells #[.int .i64 0, .int .i64 0, .int .i64 0] 70)) w2.heap.size 0 0 0 a b c d) := St.new R2.out d0 d1 d2 d3
      clear d0 d1 d2 d3 hlt1 hlt0 R2
      generalize w2.alloc (.cells #[.int .i64 0, .int .i64 0, .int .i64 0] 70) = W0 at *
      generalize w2.heap.size = nb at *
      refine wp_loop_rounds 4 ?_
      rw [rounds_succ]
      have x0 := S0.out.a0
      go_wp2_with fail
      rcases hq : nameOf 0 a with _ | i
      · have HE : Hid (q = none) := HQ3.out.symm.trans (rd4_a hq)
        have HK : Hid (nameOf 0 a = none) := hq
        clear hq x0
        refine (name0 a _ HK.out _ (HN.out.below S0.out.r.b)).mono ?_
        rintro e w3 ⟨rfl, rfl⟩
        simp only [Option.getD_none, Option.isSome_none]
        have c0 := S0.out.r.c0
        have c1 := S0.out.r.c1
        have c2 := S0.out.r.c2
        have c3 := S0.out.r.c3
        have c4 := S0.out.r.c4
        have f0 := S0.out.r.f0
        have f1 := S0.out.r.f1
        have f2 := S0.out.r.f2
        have f3 := S0.out.r.f3
        have f4 := S0.out.r.f4
        go_wp2_with fail
        exact bodyPost_ret (v := .tuple #[zeroR, .bool false]) (by simp [results, Tryz.results22, go_sem, c0, c1, c2, c3, c4]) rfl ⟨.inr ⟨HE.out, rfl⟩, by
          repeat (first | exact S0.out.r.b | refine Below.setCell ?_ (by exact Nat.le_refl _) _)⟩
      have HN0 : Hid (nameOf 0 a = some i) := hq
      have hl0 := nameOf_lt hq
      clear hq x0
      refine (name0 a _ HN0.out _ (HN.out.below S0.out.r.b)).mono ?_
      rintro e V0 ⟨rfl, rfl⟩
      simp only [Option.getD_some, Option.isSome_some]
      have m := S0.out.m0
      have g := S0.out.g0
      go_wp2_with fail
      rw [rounds_succ]
      clear m g
      have T0 : Hid (St w (V0.setCell ⟨nb, 0, none⟩ (.int .i64 i)) nb i 0 0 a b c d) := S0.out.set0 _
      generalize V0.setCell ⟨nb, 0, none⟩ (.int .i64 i) = W1 at *
      have S1 : Hid (St w W1 nb i 0 0 a b c d) := T0.out
      clear T0 S0
      have x1 := S1.out.a1
      go_wp2_with fail
      rcases hq : nameOf 1 b with _ | j
      · have HE : Hid (q = none) := HQ3.out.symm.trans (rd4_b hq)
        have HK : Hid (nameOf 1 b = none) := hq
        clear hq x1
        refine (name1 b _ HK.out _ (HN.out.below S1.out.r.b)).mono ?_
        rintro e w3 ⟨rfl, rfl⟩
        simp only [Option.getD_none, Option.isSome_none]
        have c0 := S1.out.r.c0
        have c1 := S1.out.r.c1
        have c2 := S1.out.r.c2
        have c3 := S1.out.r.c3
        have c4 := S1.out.r.c4
        have f0 := S1.out.r.f0
        have f1 := S1.out.r.f1
        have f2 := S1.out.r.f2
        have f3 := S1.out.r.f3
        have f4 := S1.out.r.f4
        go_wp2_with fail
        exact bodyPost_ret (v := .tuple #[zeroR, .bool false]) (by simp [results, Tryz.results22, go_sem, c0, c1, c2, c3, c4]) rfl ⟨.inr ⟨HE.out, rfl⟩, by
          repeat (first | exact S1.out.r.b | refine Below.setCell ?_ (by exact Nat.le_refl _) _)⟩
      have HN1 : Hid (nameOf 1 b = some j) := hq
      have hl1 := nameOf_lt hq
      clear hq x1
      refine (name1 b _ HN1.out _ (HN.out.below S1.out.r.b)).mono ?_
      rintro e V1 ⟨rfl, rfl⟩
      simp only [Option.getD_some, Option.isSome_some]
      have m := S1.out.m1
      have g := S1.out.g1
      go_wp2_with fail
      rw [rounds_succ]
      clear m g
      have T1 : Hid (St w (V1.setCell ⟨nb, 1, none⟩ (.int .i64 j)) nb i j 0 a b c d) := S1.out.set1 _
      generalize V1.setCell ⟨nb, 1, none⟩ (.int .i64 j) = W2 at *
      have S2 : Hid (St w W2 nb i j 0 a b c d) := T1.out
      clear T1 S1
      have x2 := S2.out.a2
      go_wp2_with fail
      rcases hq : nameOf 2 c with _ | k
      · have HE : Hid (q = none) := HQ3.out.symm.trans (rd4_c hq)
        have HK : Hid (nameOf 2 c = none) := hq
        clear hq x2
        refine (name2 c _ HK.out _ (HN.out.below S2.out.r.b)).mono ?_
        rintro e w3 ⟨rfl, rfl⟩
        simp only [Option.getD_none, Option.isSome_none]
        have c0 := S2.out.r.c0
        have c1 := S2.out.r.c1
        have c2 := S2.out.r.c2
        have c3 := S2.out.r.c3
        have c4 := S2.out.r.c4
        have f0 := S2.out.r.f0
        have f1 := S2.out.r.f1
        have f2 := S2.out.r.f2
        have f3 := S2.out.r.f3
        have f4 := S2.out.r.f4
        go_wp2_with fail
        exact bodyPost_ret (v := .tuple #[zeroR, .bool false]) (by simp [results, Tryz.results22, go_sem, c0, c1, c2, c3, c4]) rfl ⟨.inr ⟨HE.out, rfl⟩, by
          repeat (first | exact S2.out.r.b | refine Below.setCell ?_ (by exact Nat.le_refl _) _)⟩
      have HN2 : Hid (nameOf 2 c = some k) := hq
      have hl2 := nameOf_lt hq
      clear hq x2
      refine (name2 c _ HN2.out _ (HN.out.below S2.out.r.b)).mono ?_
      rintro e V2 ⟨rfl, rfl⟩
      simp only [Option.getD_some, Option.isSome_some]
      have m := S2.out.m2
      have g := S2.out.g2
      go_wp2_with fail
      rw [rounds_succ]
      clear m g
      have T2 : Hid (St w (V2.setCell ⟨nb, 2, none⟩ (.int .i64 k)) nb i j k a b c d) := S2.out.set2 _
      generalize V2.setCell ⟨nb, 2, none⟩ (.int .i64 k) = W3 at *
      have S3 : Hid (St w W3 nb i j k a b c d) := T2.out
      clear T2 S2
      have x3 := S3.out.a3
      go_wp2_with fail
      refine (cut_any d zd _ (HL.out.below S3.out.r.b)).mono ?_
      rintro e W4 ⟨rfl, hb4⟩
      have S4 : Hid (St w W4 nb i j k a b c d) := S3.out.below hb4
      have l1 := cut_len1 d.data.toList
      have l2 := cut_len2 d.data.toList
      rw [bytes_len] at l1 l2
      obtain ⟨⟨p1, p2, p3⟩, hP⟩ : ∃ P, Lib.cut d.data.toList [45] = P := ⟨_, rfl⟩
      rw [hP] at l1 l2 ⊢
      simp only at l1 l2 ⊢
      have HP : Hid (Lib.cut d.data.toList [45] = (p1, p2, p3)) := hP
      have Z1 : Hid (p1.length ≤ 4000) := by show _ ≤ _; omega
      have Z2 : Hid (p2.length ≤ 4000) := by show _ ≤ _; omega
      obtain ⟨n1, ok1, hn1⟩ := num_part p1
      obtain ⟨n2, ok2, hn2⟩ := num_part p2
      have H1 : Hid ((0 ≤ numOf p1 5 ∧ n1 = numOf p1 5 ∧ ok1 = true) ∨ (numOf p1 5 < 0 ∧ n1 = 0 ∧ ok1 = false)) := hn1
      have H2 : Hid ((0 ≤ numOf p2 5 ∧ n2 = numOf p2 5 ∧ ok2 = true) ∨ (numOf p2 5 < 0 ∧ n2 = 0 ∧ ok2 = false)) := hn2
      clear hb4 x3 S3 hP l1 l2 hn1 hn2
      go_wp2_with fail
      refine (number_any p1 Z1.out n1 ok1 H1.out _ (HL.out.below S4.out.r.b) (HT.out.below S4.out.r.b)).mono ?_
      rintro e W5 ⟨rfl, hb5⟩
      have S5 : Hid (St w W5 nb i j k a b c d) := S4.out.below hb5
      clear hb5 S4
      go_wp2_with fail
      refine (number_any p2 Z2.out n2 ok2 H2.out _ (HL.out.below S5.out.r.b) (HT.out.below S5.out.r.b)).mono ?_
      rintro e W6 ⟨rfl, hb6⟩
      have S6 : Hid (St w W6 nb i j k a b c d) := S5.out.below hb6
      clear hb6 S5
      by_cases hok : ok1 = true ∧ ok2 = true
      · obtain ⟨rfl, rfl⟩ := hok
        have HE : Hid (q = some ⟨i == 1, j == 1, (k : Int), n1, n2⟩) := by
          show _ = _
          rcases H1.out with ⟨g1, rfl, _⟩ | ⟨_, _, h⟩
          · rcases H2.out with ⟨g2, rfl, _⟩ | ⟨_, _, h⟩
            · rw [← HQ3.out]; exact rd4_ok HN0.out HN1.out HN2.out (two_some HP.out g1 g2)
            · cases h
          · cases h
        have c0 := S6.out.r.c0
        have c1 := S6.out.r.c1
        have c2 := S6.out.r.c2
        have c3 := S6.out.r.c3
        have c4 := S6.out.r.c4
        have f0 := S6.out.r.f0
        have f1 := S6.out.r.f1
        have f2 := S6.out.r.f2
        have f3 := S6.out.r.f3
        have f4 := S6.out.r.f4
        have m0 := S6.out.m0
        have m1 := S6.out.m1
        have m2 := S6.out.m2
        go_wp2_with fail
        exact bodyPost_ret (v := .tuple #[.agg #[.bool ((i : Int) == 1), .bool ((j : Int) == 1), .int .i64 k, .int .i64 n1, .int .i64 n2], .bool true]) (by simp [results, Tryz.results22, go_sem, c0, c1, c2, c3, c4]) rfl ⟨.inl ⟨_, HE.out, ret_rl⟩, by
          repeat (first | exact S6.out.r.b | refine Below.setCell ?_ (by exact Nat.le_refl _) _)⟩
      · have HE : Hid (q = none) := by
          show _ = _
          rw [← HQ3.out]
          refine rd4_d (two_none HP.out ?_)
          rcases H1.out with ⟨_, _, e1⟩ | ⟨g1, _, _⟩
          · rcases H2.out with ⟨_, _, e2⟩ | ⟨g2, _, _⟩
            · exact absurd ⟨e1, e2⟩ hok
            · exact .inr g2
          · exact .inl g1
        have c0 := S6.out.r.c0
        have c1 := S6.out.r.c1
        have c2 := S6.out.r.c2
        have c3 := S6.out.r.c3
        have c4 := S6.out.r.c4
        have f0 := S6.out.r.f0
        have f1 := S6.out.r.f1
        have f2 := S6.out.r.f2
        have f3 := S6.out.r.f3
        have f4 := S6.out.r.f4
        rcases ok1 with _ | _
        · go_wp2_with fail
          exact bodyPost_ret (v := .tuple #[zeroR, .bool false]) (by simp [results, Tryz.results22, go_sem, c0, c1, c2, c3, c4]) rfl ⟨.inr ⟨HE.out, rfl⟩, by
            repeat (first | exact S6.out.r.b | refine Below.setCell ?_ (by exact Nat.le_refl _) _)⟩
        · obtain rfl : ok2 = false := by
            cases ok2
            · rfl
            · exact absurd ⟨rfl, rfl⟩ hok
          go_wp2_with fail
          exact bodyPost_ret (v := .tuple #[zeroR, .bool false]) (by simp [results, Tryz.results22, go_sem, c0, c1, c2, c3, c4]) rfl ⟨.inr ⟨HE.out, rfl⟩, by
            repeat (first | exact S6.out.r.b | refine Below.setCell ?_ (by exact Nat.le_refl _) _)⟩
  · have HE : Hid (q = none) := HQ.out.symm.trans (rdL_odd h4)
    have hne : (((cutFrom 32 [] x.data.toList).length : Int) != 4) = true := by rw [bne_iff_ne]; omega
    have c0 := R2.out.c0
    have c1 := R2.out.c1
    have c2 := R2.out.c2
    have c3 := R2.out.c3
    have c4 := R2.out.c4
    have f0 := R2.out.f0
    have f1 := R2.out.f1
    have f2 := R2.out.f2
    have f3 := R2.out.f3
    have f4 := R2.out.f4
    clear h4 HC HZ
    generalize (cutFrom 32 [] x.data.toList).length = N4 at *
    go_wp2_with fail
    exact bodyPost_ret (v := .tuple #[zeroR, .bool false]) (by simp [results, Tryz.results22, go_sem, c0, c1, c2, c3, c4]) rfl ⟨.inr ⟨HE.out, rfl⟩, by
      repeat (first | exact R2.out.b | refine Below.setCell ?_ (by exact Nat.le_refl _) _)⟩
end Go.Proofs.YtpmoamfhppmicaaGreatDoor
