/-
  Package policy's Read.
-/
import Derived.Test.YtpmoamfhppmicaaGreatDoorRdB
import Derived.Test.YtpmoamfhppmicaaGreatDoorPoG
import Derived.Test.YtpmoamfhppmicaaGreatDoorCode
namespace Go.Proofs.YtpmoamfhppmicaaGreatDoor
open Go.RowKit

theorem rul_at (W : World) (r : Rl) : Rul (W.alloc (.cells #[.bool r.al, .bool r.ou, .int .i64 r.pr, .int .i64 r.lo, .int .i64 r.tp] 42)) (some ⟨W.heap.size, 0, none⟩) [r] := fun i y hy => by
  match i, hy with
  | 0, hy =>
    obtain rfl := Option.some.inj hy
    exact ⟨_, _, rfl, by simp, by simp, by simp, by simp, by simp⟩
/-- what Read answers, of lines. -/
def LnV (s : Nat → Addr) (W : World) (L : List ByteArray) (v e : Value) : Prop :=
  (∃ i g : Nat, firstBad L 0 = some i ∧ v = .slice none 0 0 ∧ e = .iface 60 (.pointer (some ⟨g, 0, none⟩)) ∧ W.cell? ⟨g, 0, none⟩ = some (.int .i64 i) ∧ W.cell? ⟨g, 1, none⟩ = some (.iface 161 (.pointer (some (s 0))))) ∨
  (firstBad L 0 = none ∧ ((RulesOk (rulesOf L) ∧ e = .nilIface ∧ Sl W v (rulesOf L)) ∨ (¬ RulesOk (rulesOf L) ∧ ChkV s W (rulesOf L) e ∧ v = .slice none 0 0)))
/-- what Read answers. -/
def RdV (s : Nat → Addr) (W : World) (x : ByteArray) (v e : Value) : Prop :=
  (3000 < x.size ∧ v = .slice none 0 0 ∧ e = errV s 2) ∨ (x.size = 0 ∧ v = .slice none 0 0 ∧ e = .nilIface) ∨ (1 ≤ x.size ∧ x.size ≤ 3000 ∧ LnV s W (cutFrom 10 [] (trim10 x.data.toList)) v e)
theorem firstBad_drop {L : List ByteArray} {j k : Nat} {z : ByteArray} (h : L[j]? = some z) : firstBad (L.drop j) k = if (rdL z).isSome = true then firstBad (L.drop (j + 1)) (k + 1) else some k := by
  obtain ⟨hj, e⟩ := List.getElem?_eq_some_iff.1 h
  rw [List.drop_eq_getElem_cons hj, e]
  rfl
theorem rulesOf_take {L : List ByteArray} {j : Nat} {z : ByteArray} {r : Rl} (h : L[j]? = some z) (hr : rdL z = some r) : rulesOf (L.take (j + 1)) = rulesOf (L.take j) ++ [r] := by
  unfold rulesOf
  rw [List.take_add_one, h, List.filterMap_append]
  simp [hr]
theorem trim_len (l : List UInt8) : (trim10 l).length ≤ l.length := by
  unfold trim10
  split
  · simp
  · exact Nat.le_refl _
theorem cut_count (c : UInt8) (l : List UInt8) : (cutFrom c [] l).length ≤ l.length + 1 := by
  have := words_le ⟨l.toArray⟩ c
  rw [words_eq] at this
  simpa [ByteArray.size] using this
theorem rul_more {b0 : Nat} {w0 wr w1 : World} {v v' : Value} {l : List Rl} {r : Rl} {o1 o2 : Obj} (hown : wr.ownsRow b0 42 5 v l.length (cellsL l)) (hb : Below b0 w0 wr) (hs : b0 ≤ wr.heap.size)
    (o' : w1.ownsRow b0 42 5 v' (l.length + 1) (cellsL l ++ cellsL [r])) (hg : ((wr.alloc o1).alloc o2).grownBy w1 v.ownBlock) :
    w1.ownsRow b0 42 5 v' (l ++ [r]).length (cellsL (l ++ [r])) ∧ Below b0 w0 w1 := by
  refine ⟨?_, ((hb.alloc hs _).alloc (by simp; omega) _).grown hg (by simp; omega) (fun j hj => (hown.lt _ hj).1)⟩
  rw [cellsL_append, List.length_append]
  exact o'
theorem own_below {w w' : World} {b n : Nat} {v : Value} {cs : List Value} (h : w.ownsRow b 42 5 v n cs) (hb : Below w.heap.size w w') : w'.ownsRow b 42 5 v n cs :=
  h.kept (row := none) ⟨hb.os, hb.tape, hb.output, hb.size, fun k hk _ => hb.block k hk⟩ (Classical.em _)
set_option maxRecDepth 100000 in
set_option maxHeartbeats 4000000 in
theorem read_lines (x : ByteArray) (n : Nat) (hx : x.size = n + 1) (hx2 : n < 3000) (s : Nat → Addr) (w : World) (S : Sents w s) (L : Libs w) (T : Pow w) (N : PNm w) :
    Calls Tryz.prog 10 #[.string x] w fun e w' => (∃ v y, e = .returned (.tuple #[v, y]) ∧ LnV s w' (cutFrom 10 [] (trim10 x.data.toList)) v y) ∧ Below w.heap.size w w' := by
  have HS : Hid (Sents w s) := S
  have HL : Hid (Libs w) := L
  have HT : Hid (Pow w) := T
  have HN : Hid (PNm w) := N
  have hne : (x.toList == []) = false := by
    rw [beq_eq_false_iff_ne]
    intro e
    have e2 : x.data.toList = [] := by simpa [ByteArray.toList_eq] using e
    have := bytes_len x
    rw [e2, hx] at this
    simp at this
  have hlt : ¬ (3000 : Int) < (x.size : Int) := by omega
  obtain ⟨i0, hi, hz0, hz1, hz2⟩ := info_parts Tryz.infoRl
  have HX : Hid (x.size = n + 1) := hx
  clear S L T N hx
  go_enter Tryz.func10, Tryz.ntmps10
  go_wp2_with fail
  refine (trim_any x n HX.out (by omega) _).mono ?_
  rintro e w1 ⟨rfl, rfl⟩
  have hxl := bytes_len x
  have htl := trim_len x.data.toList
  generalize hE1 : trim10 x.data.toList = tx at *
  have E1 : Hid (trim10 x.data.toList = tx) := hE1
  clear hE1
  have hts : (⟨tx.toArray⟩ : ByteArray).size ≤ 4000 := by have := HX.out; simp [ByteArray.size]; omega
  have HTS : Hid ((⟨tx.toArray⟩ : ByteArray).size ≤ 4000) := hts
  have htx : tx.length ≤ 3000 := by have := HX.out; omega
  clear hts hxl htl
  go_wp2_with fail
  refine (split_any ⟨tx.toArray⟩ HTS.out 10 _ HL.out).mono ?_
  rintro e w2 ⟨rfl, hc, hb2⟩
  rw [words_eq] at hc ⊢
  simp only at hc ⊢
  have hcnt := cut_count 10 tx
  have HZ : Hid (∀ z ∈ cutFrom 10 [] tx, z.size ≤ 4000) := fun z hz => by
    have := cut_size 10 tx [] z hz
    simp at this
    omega
  generalize hE2 : cutFrom 10 [] tx = Q at *
  have E2 : Hid (cutFrom 10 [] tx = Q) := hE2
  clear hE2
  have HC : Hid (∀ (j : Nat) y, Q[j]? = some y → w2.cell? ⟨w1.heap.size, j, none⟩ = some (.string y)) := hc
  have B2 : Hid (Below w1.heap.size w1 w2) := hb2
  have hq : Q.length ≤ 3001 := by omega
  clear hc hb2 hcnt
  go_wp2_with fail
  go_loopw [4, 20] (fun v t wr => ∃ j : Nat, j ≤ Q.length ∧ t = .int .i64 j ∧ firstBad (Q.drop j) j = firstBad Q 0 ∧ (rulesOf (Q.take j)).length ≤ j ∧ wr.ownsRow w2.heap.size 42 5 v (rulesOf (Q.take j)).length (cellsL (rulesOf (Q.take j))) ∧ Below w2.heap.size w2 wr) (fun _ t _ => Q.length - (intOf t).toNat)
  case atStart => exact ⟨0, Nat.zero_le _, rfl, rfl, by simp [rulesOf], World.ownsRow_nil _ _ _ _, Below.refl _ _⟩
  case round =>
    obtain ⟨j, hj, rfl, hfb, hrl, hown, hbr⟩ := hrel
    have HF : Hid (firstBad (Q.drop j) j = firstBad Q 0) := hfb
    have HO : Hid (wr.ownsRow w2.heap.size 42 5 u4 (rulesOf (Q.take j)).length (cellsL (rulesOf (Q.take j)))) := hown
    have HB : Hid (Below w2.heap.size w2 wr) := hbr
    clear hfb hown hbr
    by_cases hlt2 : j < Q.length
    · have hz : Q[j]? = some Q[j] := List.getElem?_eq_getElem hlt2
      have hzs := HZ.out _ (List.getElem_mem hlt2)
      generalize Q[j] = z at hz hzs
      have HZJ : Hid (Q[j]? = some z) := hz
      have cz := Below.keeps HB.out (HC.out j z hz)
      have HD : Hid (firstBad Q 0 = if (rdL z).isSome = true then firstBad (Q.drop (j + 1)) (j + 1) else some j) := by show _ = _; rw [← HF.out]; exact firstBad_drop hz
      have BW : Hid (Below w1.heap.size w1 wr) := B2.out.trans (HB.out.mono B2.out.size)
      clear hz
      obtain ⟨q, hqq⟩ : ∃ q, rdL z = q := ⟨_, rfl⟩
      have HQ : Hid (rdL z = q) := hqq
      clear hqq
      go_wp2_with fail
      refine (readLine_any z hzs q HQ.out _ (HL.out.below BW.out) (HT.out.below BW.out) (HN.out.below BW.out)).mono ?_
      rintro e w3 ⟨he, hb3⟩
      have X3 : Hid (Below wr.heap.size wr w3) := hb3
      clear hb3 cz
      rcases he with ⟨r, hr, rfl⟩ | ⟨hr, rfl⟩
      · subst hr
        have HOK : Hid (rulesOf (Q.take (j + 1)) = rulesOf (Q.take j) ++ [r]) := rulesOf_take HZJ.out HQ.out
        have HD2 : Hid (firstBad (Q.drop (j + 1)) (j + 1) = firstBad Q 0) := by
          have := HD.out
          rw [HQ.out] at this
          exact this.symm
        obtain ⟨l0, hl0⟩ : ∃ l0, rulesOf (Q.take j) = l0 := ⟨_, rfl⟩
        rw [hl0] at HO hrl HOK
        have O3 : Hid (w3.ownsRow w2.heap.size 42 5 u4 l0.length (cellsL l0)) := own_below HO.out X3.out
        have B3 : Hid (Below w2.heap.size w2 w3) := HB.out.trans (X3.out.mono HB.out.size)
        clear hl0 HO HB X3 HF HQ HD BW
        have N4 : Hid (∀ j u, (cellsL [r])[j]? = some u → ((w3.alloc (.cells #[.bool r.al, .bool r.ou, .int .i64 r.pr, .int .i64 r.lo, .int .i64 r.tp] 42)).alloc (.cells #[.bool r.al, .bool r.ou, .int .i64 r.pr, .int .i64 r.lo, .int .i64 r.tp] 42)).cell? (Addr.add ⟨w3.heap.size + 1, 0, none⟩ j) = some u) := by
          have e : (w3.alloc (.cells #[.bool r.al, .bool r.ou, .int .i64 r.pr, .int .i64 r.lo, .int .i64 r.tp] 42)).heap.size = w3.heap.size + 1 := by simp
          have := (rul_at (w3.alloc (.cells #[.bool r.al, .bool r.ou, .int .i64 r.pr, .int .i64 r.lo, .int .i64 r.tp] 42)) r).at
          rw [e] at this
          exact this
        go_wp2_with (at_builtin; refine wpList_append_own _ rfl _ _ 22 rfl w2.heap.size 42 i0 _ 5 32 Tryz.underlying22 hi hz0 hz1 hz2 rfl (by decide) u4 l0.length (cellsL l0) rfl ((O3.out.alloc _).alloc _) ⟨w3.heap.size + 1, 0, none⟩ 1 1 (cellsL [r]) rfl rfl N4.out (cellsL_one _) (by unfold maxLen; omega) (by omega) (by have := B3.out.size; simp; omega) ?_)
        intro v5 w5 hO5 hg5 _
        have HR : Hid (w5.ownsRow w2.heap.size 42 5 v5 (l0 ++ [r]).length (cellsL (l0 ++ [r])) ∧ Below w2.heap.size w2 w5) := rul_more O3.out B3.out B3.out.size hO5 hg5
        clear hO5 hg5 N4
        go_wp2_with fail
        go_roundw
        case rel => exact ⟨j + 1, by omega, by go_num, HD2.out, by rw [HOK.out]; simp; omega, by rw [HOK.out]; exact HR.out.1, HR.out.2⟩
        case measure => simp [intOf]; omega
      · subst hr
        have HD2 : Hid (firstBad Q 0 = some j) := by
          have := HD.out
          rw [HQ.out] at this
          exact this
        have B3 : Hid (Below w1.heap.size w1 w3) := below2 BW.out X3.out
        have gT := (HS.out.below B3.out).c0
        have hl2 : 1 < w3.heap.size := cell_lt gT
        go_wp2_with fail
        go_region
        all_goals go_wp2_with fail
        all_goals go_ret2
        all_goals refine ⟨⟨_, _, rfl, ?_⟩, ?_⟩
        all_goals first
          | (rw [E1.out, E2.out]
             exact .inl ⟨j, w3.heap.size + 1, HD2.out, rfl, rfl, by simp [go_sem], by simp [go_sem]⟩)
          | (repeat (first | exact B3.out | refine Below.drew ?_ | refine Below.alloc ?_ (by have := B3.out.size; simp; omega) _))
    · obtain rfl : j = Q.length := by omega
      rw [List.drop_length] at HF
      rw [List.take_length] at HO hrl
      have HF2 : Hid (firstBad Q 0 = none) := HF.out.symm
      have BW : Hid (Below w1.heap.size w1 wr) := B2.out.trans (HB.out.mono B2.out.size)
      have S4 : Hid (Sl wr u4 (rulesOf Q)) := (Sl.of_own HO.out).1
      have hql : (rulesOf Q).length ≤ 4000 := by
        have := List.length_filterMap_le rdL Q
        unfold rulesOf
        omega
      clear HF HO HB
      generalize hl0 : rulesOf Q = l0 at *
      have E3 : Hid (rulesOf Q = l0) := hl0
      clear hl0
      obtain ⟨p4, k4, rfl, hR4⟩ := S4.out.open
      have R4 : Hid (Rul wr p4 l0) := hR4
      clear hR4
      go_wp2_with fail
      refine (pcheck_big p4 l0 k4 s _ ⟨(HS.out.below BW.out).c1, (HS.out.below BW.out).c2⟩ R4.out hql).mono ?_
      rintro e w3 ⟨⟨v, rfl, hv⟩, hb3⟩
      have B3 : Hid (Below w1.heap.size w1 w3) := below2 BW.out hb3
      have S5 : Hid (Sl w3 (.slice p4 l0.length k4) l0) := S4.out.below hb3
      clear hb3 R4 S4
      have HV : Hid (ChkV s w3 l0 v) := hv
      by_cases hok : RulesOk l0
      · obtain rfl : v = .nilIface := by
          rcases hv with ⟨h1, _⟩ | ⟨_, _, h1⟩ | ⟨_, i, g, h1, _⟩
          · have := hok.1; omega
          · exact h1
          · rw [hok.2] at h1; cases h1
        have HOK : Hid (RulesOk l0) := hok
        clear hv hok
        go_wp2_with fail
        go_ret2
        refine ⟨⟨_, _, rfl, ?_⟩, B3.out⟩
        rw [E1.out, E2.out]
        exact .inr ⟨HF2.out, .inl (by rw [E3.out]; exact ⟨HOK.out, rfl, S5.out⟩)⟩
      · obtain ⟨t, a, rfl⟩ : ∃ t a, v = .iface t (.pointer (some a)) := by
          rcases hv with ⟨h1, rfl⟩ | ⟨h1, h2, _⟩ | ⟨_, i, g, h1, rfl, _⟩
          · exact ⟨_, _, rfl⟩
          · exact absurd ⟨h1, h2⟩ hok
          · exact ⟨_, _, rfl⟩
        have HOK : Hid (¬ RulesOk l0) := hok
        clear hv hok
        go_wp2_with fail
        go_ret2
        refine ⟨⟨_, _, rfl, ?_⟩, B3.out⟩
        rw [E1.out, E2.out]
        exact .inr ⟨HF2.out, .inr (by rw [E3.out]; exact ⟨HOK.out, HV.out, rfl⟩)⟩
set_option maxRecDepth 100000 in
set_option maxHeartbeats 2000000 in
theorem read_long (x : ByteArray) (hx : 3000 < x.size) (s : Nat → Addr) (w : World) (S : Sents w s) :
    Calls Tryz.prog 10 #[.string x] w fun e w' => e = .returned (.tuple #[.slice none 0 0, errV s 2]) ∧ Below w.heap.size w w' := by
  have c1 := S.c1
  have h1 : (3000 : Int) < (x.size : Int) := by omega
  clear S hx
  go_enter Tryz.func10, Tryz.ntmps10
  go_wp2_with fail
  go_region
  all_goals go_wp2_with fail
  all_goals go_ret2
  all_goals exact ⟨rfl, (Below.refl _ _).drew⟩
set_option maxRecDepth 100000 in
set_option maxHeartbeats 2000000 in
theorem read_empty (w : World) :
    Calls Tryz.prog 10 #[.string ⟨#[]⟩] w fun e w' => e = .returned (.tuple #[.slice none 0 0, .nilIface]) ∧ w' = w := by
  go_enter Tryz.func10, Tryz.ntmps10
  go_wp2_with fail
  go_ret2
  exact ⟨rfl, rfl⟩
theorem size_zero {x : ByteArray} (h : x.size = 0) : x = ⟨#[]⟩ := by
  apply ByteArray.ext
  apply Array.eq_empty_of_size_eq_zero
  exact h
theorem pread_any (x : ByteArray) (s : Nat → Addr) (w : World) (S : Sents w s) (L : Libs w) (T : Pow w) (N : PNm w) :
    Calls Tryz.prog 10 #[.string x] w fun e w' => (∃ v y, e = .returned (.tuple #[v, y]) ∧ RdV s w' x v y) ∧ Below w.heap.size w w' := by
  by_cases h1 : 3000 < x.size
  · exact (read_long x h1 s w S).mono fun e w' ⟨he, hb⟩ => ⟨⟨_, _, he, .inl ⟨h1, rfl, rfl⟩⟩, hb⟩
  by_cases h0 : x.size = 0
  · have e0 := size_zero h0
    rw [e0]
    exact (read_empty w).mono fun e w' ⟨he, hw⟩ => ⟨⟨_, _, he, .inr (.inl ⟨rfl, rfl, rfl⟩)⟩, by rw [hw]; exact Below.refl _ _⟩
  · obtain ⟨n, hn⟩ : ∃ n, x.size = n + 1 := ⟨x.size - 1, by omega⟩
    refine (read_lines x n hn (by omega) s w S L T N).mono ?_
    rintro e w' ⟨⟨v, y, rfl, h⟩, hb⟩
    exact ⟨⟨v, y, rfl, .inr (.inr ⟨by omega, by omega, h⟩)⟩, hb⟩
end Go.Proofs.YtpmoamfhppmicaaGreatDoor
