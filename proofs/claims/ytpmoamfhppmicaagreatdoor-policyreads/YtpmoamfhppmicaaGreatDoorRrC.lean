/-
  The document's RulesOf.
-/
import Derived.Test.YtpmoamfhppmicaaGreatDoorRrB
import Derived.Test.YtpmoamfhppmicaaGreatDoorRdC
import Derived.Test.YtpmoamfhppmicaaGreatDoorPaR
namespace Go.Proofs.YtpmoamfhppmicaaGreatDoor
open Go.RowKit

/-- what the document answers, of lines. -/
def LnR (W : World) (L : List ByteArray) (v : Value) (f : Int × Int) : Prop :=
  (∃ i : Nat, firstBad L 0 = some i ∧ v = .slice none 0 0 ∧ f = (1, (i : Int))) ∨
  (firstBad L 0 = none ∧ f = faultOf (rulesOf L) ∧ ((RulesOk (rulesOf L) ∧ Sl W v (rulesOf L)) ∨ (¬ RulesOk (rulesOf L) ∧ v = .slice none 0 0)))
def RfV (W : World) (x : ByteArray) (v : Value) (f : Int × Int) : Prop :=
  (3000 < x.size ∧ v = .slice none 0 0 ∧ f = (2, -1)) ∨ (x.size = 0 ∧ v = .slice none 0 0 ∧ f = (0, -1)) ∨ (1 ≤ x.size ∧ x.size ≤ 3000 ∧ LnR W (cutFrom 10 [] (trim10 x.data.toList)) v f)
theorem fok {l : List Rl} (h : RulesOk l) : faultOf l = (0, -1) := by unfold faultOf; rw [if_neg (by have := h.1; omega), h.2]
theorem fbad {l : List Rl} (h : ¬ RulesOk l) : (faultOf l).1 = 2 := by
  unfold faultOf
  split
  · rfl
  · split
    · rfl
    · rename_i h1 h2; exact absurd ⟨by omega, h2⟩ h
theorem set_ne {W : World} {c i k j : Nat} {x v : Value} (hn : c < k) (h : W.cell? ⟨k, j, none⟩ = some v) : (W.setCell ⟨c, i, none⟩ x).cell? ⟨k, j, none⟩ = some v := by
  rw [World.cell?_setCell_other _ _ _ _ (fun e => by have := congrArg Addr.block e; simp at this; omega)]; exact h
theorem Sl.far {W : World} {v : Value} {l : List Rl} (h : Sl W v l) {c : Nat} (hc : ∀ k, v.ownBlock = some k → c < k) (i : Nat) (x : Value) : Sl (W.setCell ⟨c, i, none⟩ x) v l := by
  rcases h with h | ⟨ad, cap, rfl, h1, h2, R⟩
  · exact .inl h
  · refine .inr ⟨ad, cap, rfl, h1, h2, fun j r hr => ?_⟩
    obtain ⟨b, o, e, k0, k1, k2, k3, k4⟩ := R j r hr
    obtain rfl := Option.some.inj e
    have hb : c < b := hc b rfl
    exact ⟨b, o, rfl, set_ne hb k0, set_ne hb k1, set_ne hb k2, set_ne hb k3, set_ne hb k4⟩
/-- the result's place stands, and what was there. -/
structure Rg (w W : World) : Prop where
  c0 : W.cell? ⟨w.heap.size, 0, none⟩ = some (.int .i64 0)
  c1 : W.cell? ⟨w.heap.size, 1, none⟩ = some (.int .i64 0)
  f0 : W.frozen? ⟨w.heap.size, 0, none⟩ = false
  f1 : W.frozen? ⟨w.heap.size, 1, none⟩ = false
  b : Below w.heap.size w W
theorem Rg.below {w W W' : World} (h : Rg w W) (hb : Below W.heap.size W W') : Rg w W' := ⟨Below.keeps hb h.c0, Below.keeps hb h.c1, fk hb h.c0 h.f0, fk hb h.c1 h.f1, below2 h.b hb⟩
theorem Rg.new (w : World) : Rg w (w.alloc (.cells #[.int .i64 0, .int .i64 0] 30)) :=
  ⟨by simp, by simp, by rw [World.frozen?_alloc_at _ _ _ _ rfl], by rw [World.frozen?_alloc_at _ _ _ _ rfl], (Below.refl _ _).alloc (Nat.le_refl _) _⟩
set_option maxRecDepth 100000 in
set_option maxHeartbeats 2000000 in
theorem rof_long (x : ByteArray) (hx : 3000 < x.size) (w : World) :
    Calls Tryz.prog 13 #[.string x] w fun e w' => e = .returned (.tuple #[.slice none 0 0, .agg #[.int .i64 2, .int .i64 (-1)]]) ∧ Below w.heap.size w w' := by
  have h1 : (3000 : Int) < (x.size : Int) := by omega
  have R0 : Hid (Rg w (w.alloc (.cells #[.int .i64 0, .int .i64 0] 30))) := Rg.new w
  clear hx
  go_enter Tryz.func13, Tryz.ntmps13
  go_wp2_with fail
  refine (bare_any 2 _).mono ?_
  rintro e w1 ⟨rfl, hb1⟩
  have R1 : Hid (Rg w w1) := R0.out.below hb1
  have c0 := R1.out.c0
  have c1 := R1.out.c1
  have f0 := R1.out.f0
  have f1 := R1.out.f1
  clear hb1 R0
  go_wp2_with fail
  exact bodyPost_ret (v := .tuple #[.slice none 0 0, .agg #[.int .i64 2, .int .i64 (-1)]]) (by simp [results, Tryz.results13, go_sem, c0, c1]) rfl ⟨rfl, by
    repeat (first | exact R1.out.b | refine Below.setCell ?_ (by exact Nat.le_refl _) _)⟩
set_option maxRecDepth 100000 in
set_option maxHeartbeats 2000000 in
theorem rof_empty (w : World) :
    Calls Tryz.prog 13 #[.string ⟨#[]⟩] w fun e w' => e = .returned (.tuple #[.slice none 0 0, .agg #[.int .i64 0, .int .i64 (-1)]]) ∧ Below w.heap.size w w' := by
  have R0 : Hid (Rg w (w.alloc (.cells #[.int .i64 0, .int .i64 0] 30))) := Rg.new w
  go_enter Tryz.func13, Tryz.ntmps13
  go_wp2_with fail
  refine (fine_any _).mono ?_
  rintro e w1 ⟨rfl, hb1⟩
  have R1 : Hid (Rg w w1) := R0.out.below hb1
  have c0 := R1.out.c0
  have c1 := R1.out.c1
  have f0 := R1.out.f0
  have f1 := R1.out.f1
  clear hb1 R0
  go_wp2_with fail
  exact bodyPost_ret (v := .tuple #[.slice none 0 0, .agg #[.int .i64 0, .int .i64 (-1)]]) (by simp [results, Tryz.results13, go_sem, c0, c1]) rfl ⟨rfl, by
    repeat (first | exact R1.out.b | refine Below.setCell ?_ (by exact Nat.le_refl _) _)⟩
set_option maxRecDepth 100000 in
set_option maxHeartbeats 4000000 in
theorem rof_lines (x : ByteArray) (n : Nat) (hx : x.size = n + 1) (hx2 : n < 3000) (w : World) :
    Calls Tryz.prog 13 #[.string x] w fun e w' => (∃ v f, e = .returned (.tuple #[v, .agg #[.int .i64 f.1, .int .i64 f.2]]) ∧ LnR w' (cutFrom 10 [] (trim10 x.data.toList)) v f) ∧ Below w.heap.size w w' := by
  have R0 : Hid (Rg w (w.alloc (.cells #[.int .i64 0, .int .i64 0] 30))) := Rg.new w
  have hne : (x.toList == []) = false := by
    rw [beq_eq_false_iff_ne]
    intro e
    have e2 : x.data.toList = [] := by simpa [ByteArray.toList_eq] using e
    have := bytes_len x
    rw [e2, hx] at this
    simp at this
  have hlt : ¬ (3000 : Int) < (x.size : Int) := by omega
  obtain ⟨i0, hi, hz0, hz1, hz2⟩ := info_parts Tryz.infoRl
  obtain ⟨tx, hE1⟩ : ∃ tx, trim10 x.data.toList = tx := ⟨_, rfl⟩
  have E1 : Hid (trim10 x.data.toList = tx) := hE1
  have htx : tx.length ≤ 3000 := by have := trim_len x.data.toList; have := bytes_len x; rw [hE1] at *; omega
  have HTS : Hid ((⟨tx.toArray⟩ : ByteArray).size ≤ 4000) := by show _ ≤ _; simp [ByteArray.size]; omega
  have hxn : (x.size : Int) = (n : Int) + 1 := by omega
  have HX : Hid (x.size = n + 1) := hx
  have hn3 : decide ((3000 : Int) < (n : Int) + 1) = false := decide_eq_false (by omega)
  clear hE1
  go_enter Tryz.func13, Tryz.ntmps13
  go_upto_if 22 with fail
  go_cut [0] (fun s0 wx => s0 = .string ⟨tx.toArray⟩ ∧ w.alloc (.cells #[.int .i64 0, .int .i64 0] 30) = wx)
  case first =>
    by_cases hb : x[n] = 10
    · have HT : Hid (tx = x.data.toList.take n) := E1.out.symm.trans (trim_yes x n HX.out hb)
      have hq : ((x[n].toNat : Int) == 10) = true := by rw [hb]; decide
      clear hb
      go_wp2_with fail
      all_goals go_meet
      all_goals exact ⟨by rw [HT.out, ← take_ba], rfl⟩
    · have HT : Hid (tx = x.data.toList) := E1.out.symm.trans (trim_no x n HX.out hb)
      have hq : ((x[n].toNat : Int) == 10) = false := by
        rw [beq_eq_false_iff_ne]
        intro e
        exact hb (UInt8.toNat_inj.1 (by show x[n].toNat = 10; omega))
      clear hb
      go_wp2_with fail
      all_goals go_meet
      all_goals exact ⟨by rw [HT.out], rfl⟩
  obtain ⟨rfl, rfl⟩ := hcut
  clear hne hlt hxn hn3 hx
  go_wp2_with fail
  refine (cutRef_big ⟨tx.toArray⟩ HTS.out 10 _).mono ?_
  rintro e w2 ⟨⟨g, cap, rfl, hc⟩, hb2⟩
  simp only at hc ⊢
  have R2 : Hid (Rg w w2) := R0.out.below hb2
  have hcnt := cut_count 10 tx
  have HZ : Hid (∀ z ∈ cutFrom 10 [] tx, z.size ≤ 4000) := fun z hz => by
    have := cut_size 10 tx [] z hz
    simp at this
    omega
  generalize hE2 : cutFrom 10 [] tx = Q at *
  have E2 : Hid (cutFrom 10 [] tx = Q) := hE2
  have HC : Hid (∀ (j : Nat) y, Q[j]? = some y → w2.cell? ⟨g, j, none⟩ = some (.string y)) := hc
  have hq : Q.length ≤ 3001 := by omega
  clear hc hb2 hcnt hE2 R0
  go_wp2_with fail
  go_loopw [5, 6] (fun v t wr => ∃ j : Nat, j ≤ Q.length ∧ t = .int .i64 j ∧ firstBad (Q.drop j) j = firstBad Q 0 ∧ (rulesOf (Q.take j)).length ≤ j ∧ wr.ownsRow w2.heap.size 42 5 v (rulesOf (Q.take j)).length (cellsL (rulesOf (Q.take j))) ∧ Below w2.heap.size w2 wr) (fun _ t _ => Q.length - (intOf t).toNat)
  case atStart => exact ⟨0, Nat.zero_le _, rfl, rfl, by simp [rulesOf], World.ownsRow_nil _ _ _ _, Below.refl _ _⟩
  case round =>
    obtain ⟨j, hj, rfl, hfb, hrl, hown, hbr⟩ := hrel
    have HF : Hid (firstBad (Q.drop j) j = firstBad Q 0) := hfb
    have HO : Hid (wr.ownsRow w2.heap.size 42 5 u5 (rulesOf (Q.take j)).length (cellsL (rulesOf (Q.take j)))) := hown
    have HB : Hid (Below w2.heap.size w2 wr) := hbr
    clear hfb hown hbr
    by_cases hlt2 : j < Q.length
    · have hz : Q[j]? = some Q[j] := List.getElem?_eq_getElem hlt2
      have hzs := HZ.out _ (List.getElem_mem hlt2)
      generalize Q[j] = z at hz hzs
      have HZJ : Hid (Q[j]? = some z) := hz
      have cz := Below.keeps HB.out (HC.out j z hz)
      have HD : Hid (firstBad Q 0 = if (rdL z).isSome = true then firstBad (Q.drop (j + 1)) (j + 1) else some j) := by show _ = _; rw [← HF.out]; exact firstBad_drop hz
      clear hz
      go_wp2_with fail
      refine (ruleOf_any z hzs _).mono ?_
      rintro e w3 ⟨he, hb3⟩
      have X3 : Hid (Below wr.heap.size wr w3) := hb3
      clear hb3 cz
      rcases he with ⟨r, hr, rfl⟩ | ⟨hr, r, rfl⟩
      · have HOK : Hid (rulesOf (Q.take (j + 1)) = rulesOf (Q.take j) ++ [r]) := rulesOf_take HZJ.out hr
        have HD2 : Hid (firstBad (Q.drop (j + 1)) (j + 1) = firstBad Q 0) := by
          have := HD.out
          rw [hr] at this
          exact this.symm
        obtain ⟨l0, hl0⟩ : ∃ l0, rulesOf (Q.take j) = l0 := ⟨_, rfl⟩
        rw [hl0] at HO hrl HOK
        have O3 : Hid (w3.ownsRow w2.heap.size 42 5 u5 l0.length (cellsL l0)) := own_below HO.out X3.out
        have B3 : Hid (Below w2.heap.size w2 w3) := HB.out.trans (X3.out.mono HB.out.size)
        clear hl0 HO HB X3 HF HD hr
        have N4 : Hid (∀ j u, (cellsL [r])[j]? = some u → ((w3.alloc (.cells #[.bool r.al, .bool r.ou, .int .i64 r.pr, .int .i64 r.lo, .int .i64 r.tp] 42)).alloc (.cells #[.bool r.al, .bool r.ou, .int .i64 r.pr, .int .i64 r.lo, .int .i64 r.tp] 42)).cell? (Addr.add ⟨w3.heap.size + 1, 0, none⟩ j) = some u) := by
          have e : (w3.alloc (.cells #[.bool r.al, .bool r.ou, .int .i64 r.pr, .int .i64 r.lo, .int .i64 r.tp] 42)).heap.size = w3.heap.size + 1 := by simp
          have := (rul_at (w3.alloc (.cells #[.bool r.al, .bool r.ou, .int .i64 r.pr, .int .i64 r.lo, .int .i64 r.tp] 42)) r).at
          rw [e] at this
          exact this
        go_wp2_with (at_builtin; refine wpList_append_own _ rfl _ _ 22 rfl w2.heap.size 42 i0 _ 5 32 Tryz.underlying22 hi hz0 hz1 hz2 rfl (by decide) u5 l0.length (cellsL l0) rfl ((O3.out.alloc _).alloc _) ⟨w3.heap.size + 1, 0, none⟩ 1 1 (cellsL [r]) rfl rfl N4.out (cellsL_one _) (by unfold maxLen; omega) (by omega) (by have := B3.out.size; simp; omega) ?_)
        intro v5 w5 hO5 hg5 _
        have HR : Hid (w5.ownsRow w2.heap.size 42 5 v5 (l0 ++ [r]).length (cellsL (l0 ++ [r])) ∧ Below w2.heap.size w2 w5) := rul_more O3.out B3.out B3.out.size hO5 hg5
        clear hO5 hg5 N4
        go_wp2_with fail
        go_roundw
        case rel => exact ⟨j + 1, by omega, by go_num, HD2.out, by rw [HOK.out]; simp; omega, by rw [HOK.out]; exact HR.out.1, HR.out.2⟩
        case measure => simp [intOf]; omega
      · have HD2 : Hid (firstBad Q 0 = some j) := by
          have := HD.out
          rw [hr] at this
          exact this
        have R3 : Hid (Rg w (w3.alloc (.cells #[.bool r.al, .bool r.ou, .int .i64 r.pr, .int .i64 r.lo, .int .i64 r.tp] 42))) := ((R2.out.below HB.out).below X3.out).below ((Below.refl _ _).alloc (Nat.le_refl _) _)
        clear hr HF HO HB X3 HD
        go_upto_if 45 with fail
        generalize w3.alloc (.cells #[.bool r.al, .bool r.ou, .int .i64 r.pr, .int .i64 r.lo, .int .i64 r.tp] 42) = W3 at *
        have c0 := R3.out.c0
        have c1 := R3.out.c1
        have f0 := R3.out.f0
        have f1 := R3.out.f1
        go_wp2_with fail
        exact bodyPost_ret (v := .tuple #[.slice none 0 0, .agg #[.int .i64 1, .int .i64 j]]) (by simp [results, Tryz.results13, go_sem, c0, c1]) rfl ⟨⟨_, (1, (j : Int)), rfl, by
          rw [E1.out, E2.out]; exact .inl ⟨j, HD2.out, rfl, rfl⟩⟩, by
          repeat (first | exact R3.out.b | refine Below.setCell ?_ (by exact Nat.le_refl _) _)⟩
    · obtain rfl : j = Q.length := by omega
      rw [List.drop_length] at HF
      rw [List.take_length] at HO hrl
      have HF2 : Hid (firstBad Q 0 = none) := HF.out.symm
      have R3 : Hid (Rg w wr) := R2.out.below HB.out
      have S4 : Hid (Sl wr u5 (rulesOf Q)) := (Sl.of_own HO.out).1
      have hql : (rulesOf Q).length ≤ 4000 := by
        have := List.length_filterMap_le rdL Q
        unfold rulesOf
        omega
      have OB : Hid (∀ k, u5.ownBlock = some k → w.heap.size < k) := fun k hk => by
        have h1 := (HO.out.lt k hk).1
        have h2 := cell_lt R2.out.c0
        simp only at h2
        omega
      clear HF HO HB
      generalize hl0 : rulesOf Q = l0 at *
      have E3 : Hid (rulesOf Q = l0) := hl0
      clear hl0
      obtain ⟨p4, k4, rfl, hR4⟩ := S4.out.open
      have R4 : Hid (Rul wr p4 l0) := hR4
      clear hR4
      go_wp2_with fail
      refine (rfault_big p4 l0 k4 _ R4.out hql).mono ?_
      rintro e w3 ⟨rfl, hb3⟩
      obtain ⟨fc, fa, hF⟩ : ∃ fc fa, faultOf l0 = (fc, fa) := ⟨_, _, rfl⟩
      rw [hF]
      simp only
      have HFO : Hid (faultOf l0 = (fc, fa)) := hF
      have X : Below w3.heap.size w3 (w3.alloc (.cells #[.int .i64 fc, .int .i64 fa] 30)) := (Below.refl _ _).alloc (Nat.le_refl _) _
      have R5 : Hid (Rg w (w3.alloc (.cells #[.int .i64 fc, .int .i64 fa] 30))) := (R3.out.below hb3).below X
      have S5 : Hid (Sl (w3.alloc (.cells #[.int .i64 fc, .int .i64 fa] 30)) (.slice p4 l0.length k4) l0) := (S4.out.below hb3).below X
      have d0 : (w3.alloc (.cells #[.int .i64 fc, .int .i64 fa] 30)).cell? ⟨w3.heap.size, 0, none⟩ = some (.int .i64 fc) := by simp
      have d1 : (w3.alloc (.cells #[.int .i64 fc, .int .i64 fa] 30)).cell? ⟨w3.heap.size, 1, none⟩ = some (.int .i64 fa) := by simp
      have hnn : w.heap.size < w3.heap.size := cell_lt (R3.out.below hb3).c0
      clear hb3 X hF R4 S4 R3
      go_upto_region 17 with fail
      generalize w3.alloc (.cells #[.int .i64 fc, .int .i64 fa] 30) = W5 at *
      generalize w3.heap.size = fb at *
      have c0 := R5.out.c0
      have c1 := R5.out.c1
      have f0 := R5.out.f0
      have f1 := R5.out.f1
      by_cases hok : RulesOk l0
      · obtain ⟨rfl, rfl⟩ : fc = 0 ∧ fa = -1 := by
          have h1 := fok hok
          rw [HFO.out] at h1
          exact ⟨(Prod.mk.inj h1).1, (Prod.mk.inj h1).2⟩
        have HOK : Hid (RulesOk l0) := hok
        clear hok
        go_wp2_with fail
        go_region
        all_goals go_wp2_with fail
        all_goals exact bodyPost_ret (v := .tuple #[.slice p4 l0.length k4, .agg #[.int .i64 0, .int .i64 (-1)]]) (by simp [results, Tryz.results13, go_sem, c0, c1]) rfl ⟨⟨_, (0, -1), rfl, by
          rw [E1.out, E2.out]; refine .inr ⟨HF2.out, by rw [E3.out, HFO.out], .inl ⟨by rw [E3.out]; exact HOK.out, ?_⟩⟩
          rw [E3.out]
          exact ((S5.out.far OB.out _ _).far OB.out _ _)⟩, by
          repeat (first | exact R5.out.b | refine Below.drew ?_ | refine Below.setCell ?_ (by exact Nat.le_refl _) _)⟩
      · obtain rfl : fc = 2 := by
          have h1 := fbad hok
          rw [HFO.out] at h1
          exact h1
        have HOK : Hid (¬ RulesOk l0) := hok
        clear hok
        go_wp2_with fail
        go_region
        all_goals go_wp2_with fail
        all_goals exact bodyPost_ret (v := .tuple #[.slice none 0 0, .agg #[.int .i64 2, .int .i64 fa]]) (by simp [results, Tryz.results13, go_sem, c0, c1]) rfl ⟨⟨_, (2, fa), rfl, by
          rw [E1.out, E2.out]; exact .inr ⟨HF2.out, by rw [E3.out, HFO.out], .inr ⟨by rw [E3.out]; exact HOK.out, rfl⟩⟩⟩, by
          repeat (first | exact R5.out.b | refine Below.drew ?_ | refine Below.setCell ?_ (by exact Nat.le_refl _) _)⟩
theorem rof_any (x : ByteArray) (w : World) :
    Calls Tryz.prog 13 #[.string x] w fun e w' => (∃ v f, e = .returned (.tuple #[v, .agg #[.int .i64 f.1, .int .i64 f.2]]) ∧ RfV w' x v f) ∧ Below w.heap.size w w' := by
  by_cases h1 : 3000 < x.size
  · exact (rof_long x h1 w).mono fun e w' ⟨he, hb⟩ => ⟨⟨_, (2, -1), he, .inl ⟨h1, rfl, rfl⟩⟩, hb⟩
  by_cases h0 : x.size = 0
  · have e0 := size_zero h0
    rw [e0]
    exact (rof_empty w).mono fun e w' ⟨he, hb⟩ => ⟨⟨_, (0, -1), he, .inr (.inl ⟨rfl, rfl, rfl⟩)⟩, hb⟩
  · obtain ⟨n, hn⟩ : ∃ n, x.size = n + 1 := ⟨x.size - 1, by omega⟩
    refine (rof_lines x n hn (by omega) w).mono ?_
    rintro e w' ⟨⟨v, f, rfl, h⟩, hb⟩
    exact ⟨⟨v, f, rfl, .inr (.inr ⟨by omega, by omega, h⟩)⟩, hb⟩
end Go.Proofs.YtpmoamfhppmicaaGreatDoor
