/-
  Texts in one: WoJ WoK WoL WoN.
-/
import Derived.Test.YtenonidmgpmohaaGreatDoorKk
import Derived.Test.YtenonidmgpmohaaGreatDoorKc
namespace Go.Proofs.YtenonidmgpmohaaGreatDoor
open Go.RowKit

def WK.dn (K : WK) (i : Nat) : WK := { K with nk := setN K.nk i none }
theorem WdB.kept {w w' : World} {K : WK} {x : Wo} (h : WdB w K x) (e : w'.heap[K.wb]? = w.heap[K.wb]?) : WdB w' K x := by unfold WdB; rw [e]; exact h
theorem WdB.down {w : World} {K : WK} {x : Wo} (h : WdB w K x) {i : Nat} (hi : i < 2) (y : By) : WdB (w.setCell ⟨K.wb, i * 2, none⟩ (.pointer none)) (K.dn i) (x.fallen i y) := by
  have : i = 0 ∨ i = 1 := by omega
  unfold WdB
  show (w.setCell ⟨K.wb, i * 2, none⟩ (.pointer none)).heap[K.wb]? = _
  rw [heap_setCell_same w _ _ _ _ _ h]
  rcases this with rfl | rfl <;> rfl
/-- a side that is up. -/
theorem Wd.up {w0 w : World} {K : WK} {x : Wo} {t i : Nat} (h : Wd w0 w K x t) (hi : i < 2) {y : No} (hy : x.nd i = some y) : ∃ k m n, K.nk i = some k ∧ Nd w0 w k y m n ∧ K.yk i = some k.yb ∧ m ≤ 33 * t ∧ n ≤ 8 * t ∧ 0 ≤ y.now ∧ y.now ≤ t ∧ RulesOk y.ru ∧ y.id = i ∧ (y.ru ≠ [] → ∀ a, k.rp = some a → K.tag a.block = 5) ∧ ∀ b ∈ k.all, K.tag b = i + 1 := by
  rcases h.sd hi with ⟨k, y', m, n, e1, e2, nd, r1, r2, r3, r4, r5, r6, r7, r8⟩ | ⟨_, _, e2, _⟩ | ⟨_, e2, _⟩
  · rw [hy] at e2
    cases e2
    exact ⟨k, m, n, e1, nd, r1, r2, r3, r4, r5, r6, r7, r8, fun b hb => (h.tg (i + 1) (by omega) b (by rw [part_up hi e1]; exact hb)).1⟩
  · rw [hy] at e2; cases e2
  · rw [hy] at e2; cases e2
theorem two_cases {i : Nat} (hi : i < 2) : i = 0 ∨ i = 1 := by omega
set_option maxRecDepth 100000 in
set_option maxHeartbeats 4000000 in
theorem fall_wd {w0 w : World} {K : WK} {x : Wo} {t i : Nat} (h : Wd w0 w K x t) (hi : i < 2) {y : No} (hy : x.nd i = some y) :
    Calls Tryz.prog 40 #[.pointer (some ⟨K.wb, i * 2, none⟩)] w fun e w' => e = .returned (.tuple #[]) ∧ Wd w0 w' (K.dn i) (x.fallen i y.y) t ∧ Mv K (K.dn i) w w' := by
  obtain ⟨k, m, n, hk, nd, hyk, _, _, _, _, _, _, _, htg⟩ := h.up hi hy
  have HW : Hid (Wd w0 w K x t) := h
  have HI : Hid (i < 2) := hi
  have HY : Hid (x.nd i = some y) := hy
  have HK : Hid (K.nk i = some k ∧ K.yk i = some k.yb ∧ (∀ b ∈ k.all, K.tag b = i + 1)) := ⟨hk, hyk, htg⟩
  have HN : Hid (Nd w0 w k y m n) := nd
  have c1 := h.wb.cn hi
  have c2 := h.wb.cy hi
  have f1 := h.wb.fr (i * 2)
  rw [hk] at c1
  rw [hyk] at c2
  simp only [ndV, ybV, Option.map_some] at c1 c2
  have HB1 : Hid (WdB (w.setCell ⟨K.wb, i * 2, none⟩ (.pointer none)) (K.dn i) (x.fallen i y.y)) := h.wb.down hi y.y
  have HC1 : Hid (Chg K.wb w (w.setCell ⟨K.wb, i * 2, none⟩ (.pointer none))) := Chg.set _ _ _ _
  have HNE : Hid (k.yb ≠ K.wb) := fun e => by have := htg _ k.m_yb; rw [e, h.wb0.1] at this; omega
  have HYB : Hid (Byt (w.setCell ⟨K.wb, i * 2, none⟩ (.pointer none)) k.yb y.y) := nd.yb.kept (HC1.out.block _ nd.yb.lt HNE.out)
  clear h hi hy nd hk hyk htg
  go_enter Tryz.func40, Tryz.ntmps40
  go_wp2_with fail
  refine (boff_any k.yb y.y _ HYB.out).mono ?_
  rintro e w2 ⟨rfl, y2, g2⟩
  have Y2 : Hid (Byt w2 k.yb y.y.off) := y2
  have G2 : Hid (Chg k.yb (w.setCell ⟨K.wb, i * 2, none⟩ (.pointer none)) w2) := g2
  clear y2 g2
  go_wp2_with fail
  go_end0
  have hC : ChgL [K.wb, k.yb] w w2 := (ChgL.one HC1.out (by simp)).trans (ChgL.one G2.out (by simp))
  have hwt := HW.out.wb0
  have hyt := HK.out.2.2 _ k.m_yb
  have hy0 := HN.out.g0 _ k.m_yb
  have hl : ∀ b ∈ [K.wb, k.yb], w0.heap.size ≤ b ∧ (K.tag b = 0 ∨ K.tag b = i + 1) := fun b hb => by
    simp only [List.mem_cons, List.not_mem_nil, or_false] at hb
    rcases hb with rfl | rfl
    · exact ⟨hwt.2, .inl hwt.1⟩
    · exact ⟨hy0, .inr hyt⟩
  have hwb : WdB w2 (K.dn i) (x.fallen i y.y) := HB1.out.kept (G2.out.block _ HB1.out.lt (fun e => HNE.out e.symm))
  have hi := HI.out
  refine ⟨rfl, ?_, Mv.list HW.out hC (fun b hb => by have := (hl b hb).2; omega) (fun _ _ => rfl) rfl rfl⟩
  have mine : SdP w0 w2 (K.dn i) (x.fallen i y.y) t i := .inr (.inl ⟨k.yb, setN_same _ _ _, setN_same _ _ _, HK.out.2.1, by show Byt w2 k.yb (setN x.yb i y.y.offed i); rw [setN_same]; exact Y2.out, by show (setN x.yb i y.y.offed i).left ≤ _; rw [setN_same]; exact HN.out.lf⟩)
  have mineP : ∀ b ∈ (K.dn i).part (i + 1), (K.dn i).tag b = i + 1 ∧ w0.heap.size ≤ b := fun b hb => by
    have e1 : (K.dn i).nk i = none := setN_same _ _ _
    have e2 : (K.dn i).yk i = some k.yb := HK.out.2.1
    have : b = k.yb := by
      rcases two_cases hi with rfl | rfl <;> (simp only [WK.part, e1, e2, Option.toList, List.mem_cons, List.not_mem_nil, or_false] at hb; exact hb)
    subst this
    exact ⟨hyt, hy0⟩
  refine HW.out.make [K.wb, k.yb] hC (fun b hb => ⟨(hl b hb).1, by have := (hl b hb).2; omega⟩) (Nat.le_refl _) (fun _ _ => rfl) (fun b hb => HW.out.al b (Nat.le_trans hC.size hb)) rfl hwb ?_ ?_ (.inr ⟨rfl, rfl, rfl⟩) (.inr ⟨rfl, rfl, rfl, fun b hb => by have := (hl b hb).2; omega⟩) (.inr ⟨rfl, rfl, fun b hb => by have := (hl b hb).2; omega⟩)
  · rcases two_cases hi with rfl | rfl
    · exact .inl ⟨mine, mineP⟩
    · exact .inr ⟨rfl, rfl, rfl, rfl, fun b hb => by have := (hl b hb).2; omega⟩
  · rcases two_cases hi with rfl | rfl
    · exact .inr ⟨rfl, rfl, rfl, rfl, fun b hb => by have := (hl b hb).2; omega⟩
    · exact .inl ⟨mine, mineP⟩
/-- what up answers, by cases. -/
theorem up_cases (s : Nat → Addr) (W : Wo) (b : Nat) (n : Int) : (∃ i y, n = ((i : Nat) : Int) ∧ i < 2 ∧ W.nd i = some y ∧ W.upE n = 0 ∧ upV s W b n = .tuple #[.pointer (some ⟨b, i * 2, none⟩), .nilIface]) ∨ (∃ e, W.upE n = e + 1 ∧ upV s W b n = .tuple #[.pointer none, .iface 215 (.pointer (some (s e)))]) := by
  by_cases h2 : 0 ≤ n ∧ n < 2
  · cases hq : W.nd n.toNat with
    | some y =>
      have hu : W.upE n = 0 := by unfold Wo.upE; rw [if_pos h2, hq]; rfl
      exact .inl ⟨n.toNat, y, by omega, by omega, hq, hu, by unfold upV; rw [if_pos hu]⟩
    | none =>
      have hu : W.upE n = 7 := by unfold Wo.upE; rw [if_pos h2, hq]; rfl
      exact .inr ⟨6, hu, by unfold upV; rw [hu]; rfl⟩
  · have hu : W.upE n = 2 := by unfold Wo.upE; rw [if_neg h2]
    exact .inr ⟨1, hu, by unfold upV; rw [hu]; rfl⟩
/-- a node goes down. -/
def Wo.downed (W : Wo) (n : Int) : Wo := if W.upE n = 0 then (match W.nd n.toNat with | some y => W.fallen n.toNat y.y | none => W) else W
set_option maxRecDepth 100000 in
theorem down_wd {w0 w : World} {K : WK} {x : Wo} {t : Nat} {s : Nat → Addr} (S : SeM w0 s) (h : Wd w0 w K x t) (n : Int) :
    Calls Tryz.prog 23 #[.pointer (some ⟨K.wb, 0, none⟩), .int .i64 n] w fun e w' => e = .returned (terr s (x.upE n)) ∧ ∃ K', Wd w0 w' K' (x.downed n) t ∧ Mv K K' w w' := by
  have HS : Hid (SeM w0 s) := S
  have HW : Hid (Wd w0 w K x t) := h
  clear S h
  go_enter Tryz.func23, Tryz.ntmps23
  go_wp2_with fail
  refine (up_any HS.out HW.out n).mono ?_
  rintro e w1 ⟨rfl, hb1⟩
  have B1 : Hid (Below w.heap.size w w1) := hb1
  have W1 : Hid (Wd w0 w1 K x t) := HW.out.below hb1
  clear hb1
  rcases up_cases s x K.wb n with ⟨i, y, hn, hi, hy, he, hv⟩ | ⟨e, he, hv⟩
  · rw [hv]
    have HX : Hid (x.upE n = 0 ∧ x.downed n = x.fallen i y.y) := ⟨he, by unfold Wo.downed; rw [if_pos he, hn, Int.toNat_natCast, hy]⟩
    have HI : Hid (i < 2 ∧ x.nd i = some y) := ⟨hi, hy⟩
    clear hv hn hi hy he
    go_wp2_with fail
    refine (fall_wd W1.out HI.out.1 HI.out.2).mono ?_
    rintro e w2 ⟨rfl, w2', m2⟩
    have W2 : Hid (Wd w0 w2 (K.dn i) (x.fallen i y.y) t) := w2'
    have M2 : Hid (Mv K (K.dn i) w w2) := (Mv.of B1.out).trans m2
    clear w2' m2
    go_wp2_with fail
    go_ret
    exact ⟨by rw [HX.out.1]; rfl, _, by rw [HX.out.2]; exact W2.out, M2.out⟩
  · rw [hv]
    have HX : Hid (x.upE n = e + 1 ∧ x.downed n = x) := ⟨he, by unfold Wo.downed; rw [if_neg (by omega)]⟩
    clear hv he
    go_wp2_with fail
    go_ret
    exact ⟨by rw [HX.out.1]; rfl, K, by rw [HX.out.2]; exact W1.out, Mv.of B1.out⟩
end Go.Proofs.YtenonidmgpmohaaGreatDoor

namespace Go.Proofs.YtenonidmgpmohaaGreatDoor
open Go.RowKit

/-- a side is up anew. -/
def WK.upd (K : WK) (i : Nat) (k : Bk) (a b : Nat) : WK := { K with nk := setN K.nk i (some k), tag := fun g => if g < a then K.tag g else if g ∈ k.all then i + 1 else if g < b then 5 else 9 }
theorem WdB.rise {w : World} {K : WK} {x : Wo} (h : WdB w K x) {i : Nat} (hi : i < 2) (k : Bk) (a b : Nat) : WdB (w.setCell ⟨K.wb, i * 2, none⟩ (.pointer (some ⟨k.nd, 0, none⟩))) (K.upd i k a b) (x.risen i) := by
  unfold WdB
  show (w.setCell ⟨K.wb, i * 2, none⟩ (.pointer (some ⟨k.nd, 0, none⟩))).heap[K.wb]? = _
  rw [heap_setCell_same w _ _ _ _ _ h]
  rcases two_cases hi with rfl | rfl <;> rfl
set_option maxRecDepth 100000 in
set_option maxHeartbeats 4000000 in
theorem rise_wd {w0 w : World} {K : WK} {x : Wo} {t i b : Nat} {s : Nat → Addr} (S : SeM w0 s) (h : Wd w0 w K x t) (hi : i < 2) (hd : x.nd i = none) (hb : K.yk i = some b) (N : NewOk i (x.yb i).oned x.ru) :
    Calls Tryz.prog 52 #[.pointer (some ⟨K.wb, i * 2, none⟩), .int .i64 i, .slice K.rp x.ru.length K.rc] w fun e w' => e = .returned .nilIface ∧ ∃ K', Wd w0 w' K' (x.risen i) t ∧ Mv K K' w w' := by
  have HS : Hid (SeM w0 s) := S
  have HW : Hid (Wd w0 w K x t) := h
  have HI : Hid (i < 2) := hi
  have HO : Hid (NewOk i (x.yb i).oned x.ru) := N
  have hq : K.nk i = none ∧ Byt w b (x.yb i) ∧ (x.yb i).left ≤ 9223372036854775807 := by
    rcases h.sd hi with ⟨k, y, m, n, e1, e2, _⟩ | ⟨b', e1, e2, e3, Y, r⟩ | ⟨e1, e2, e3⟩
    · rw [hd] at e2; cases e2
    · rw [hb] at e3; cases e3; exact ⟨e1, Y, r⟩
    · rw [hb] at e3; cases e3
  have HY : Hid (Byt w b (x.yb i)) := hq.2.1
  have HL : Hid ((x.yb i).left ≤ 9223372036854775807) := hq.2.2
  have HD : Hid (x.nd i = none ∧ K.yk i = some b ∧ K.nk i = none) := ⟨hd, hb, hq.1⟩
  have hbt : K.tag b = i + 1 ∧ w0.heap.size ≤ b := h.tg (i + 1) (by omega) b (by rcases two_cases hi with rfl | rfl <;> simp [WK.part, hq.1, hb])
  have HBT : Hid (K.tag b = i + 1 ∧ w0.heap.size ≤ b) := hbt
  have HNE : Hid (b ≠ K.wb) := fun e => by have := hbt.1; rw [e, h.wb0.1] at this; omega
  have c2 := h.wb.cy hi
  rw [hb] at c2
  simp only [ybV, Option.map_some] at c2
  have HC2 : Hid (w.cell? ⟨K.wb, i * 2 + 1, none⟩ = some (.pointer (some ⟨b, 0, none⟩))) := c2
  clear S h hi N hd hb hq hbt
  go_enter Tryz.func52, Tryz.ntmps52
  go_wp2_with fail
  refine (on_any b (x.yb i) w HY.out).mono ?_
  rintro e w1 ⟨rfl, y1, g1⟩
  have Y1 : Hid (Byt w1 b (x.yb i).oned) := y1
  have G1 : Hid (Chg b w w1) := g1
  have HWB : Hid (K.wb ≠ b) := fun e => HNE.out e.symm
  have d2 := g1.keeps HWB.out HC2.out
  have BL1 : Hid (Below w0.heap.size w0 w1) := Chg.below HW.out.bl g1 HBT.out.2
  have R1 : Hid (Sl w1 (.slice K.rp x.ru.length K.rc) x.ru ∧ ∀ a n c, Value.slice K.rp x.ru.length K.rc = .slice (some a) n c → a.block ≠ b) := by
    have hs : ∀ a n c, Value.slice K.rp x.ru.length K.rc = .slice (some a) n c → a.block ≠ b := fun a n c e q => by have := HW.out.rt a (Value.slice.inj e).1; rw [q, HBT.out.1] at this; have := HI.out; omega
    exact ⟨HW.out.ru.chg1 (ChgL.one g1 (by simp)) hs, hs⟩
  clear y1 g1 c2
  go_wp2_with fail
  refine (new_nd2 HS.out.n i b (x.yb i).oned _ x.ru Y1.out HBT.out.2 BL1.out HL.out R1.out.1 R1.out.2 HO.out).mono ?_
  rintro e w2 ⟨⟨k, rfl, hkb, nd, hka, hkr⟩, c2⟩
  have ND : Hid (Nd w0 w2 k (No.new i (x.yb i).oned x.ru) 0 0) := nd
  have KA : Hid (k.yb = b ∧ (∀ g ∈ k.all, g = b ∨ w1.heap.size ≤ g) ∧ (x.ru ≠ [] → ∀ a, k.rp = some a → w1.heap.size ≤ a.block)) := ⟨hkb, hka, hkr⟩
  have C2 : Hid (ChgL [b] w w2) := (ChgL.one G1.out (by simp)).trans c2
  have S1 : Hid (w.heap.size ≤ w1.heap.size) := G1.out.size
  have WB2 : Hid (WdB w2 K x) := HW.out.wb.kept (C2.out.block _ HW.out.wb.lt (by simpa using HWB.out))
  have f1 := WB2.out.fr (i * 2)
  have c1 := WB2.out.cn HI.out
  rw [HD.out.2.2] at c1
  simp only [ndV, Option.map_none] at c1
  clear d2 nd hkb hka hkr c2 HC2
  go_wp2_with fail
  go_ret
  have hi := HI.out
  have hwl := HW.out.wb.lt
  have hwt := HW.out.wb0
  have g3 : Chg K.wb w2 (w2.setCell ⟨K.wb, i * 2, none⟩ (.pointer (some ⟨k.nd, 0, none⟩))) := Chg.set _ _ _ _
  have hWB := WB2.out.rise hi k w.heap.size w2.heap.size
  have hsz : (w2.setCell ⟨K.wb, i * 2, none⟩ (.pointer (some ⟨k.nd, 0, none⟩))).heap.size = w2.heap.size := by simp [go_sem]
  generalize w2.setCell ⟨K.wb, i * 2, none⟩ (.pointer (some ⟨k.nd, 0, none⟩)) = w3 at *
  have hC : ChgL [K.wb, b] w w3 := (C2.out.mono (fun q hq => .inl (by simp at hq; simp [hq]))).trans (ChgL.one g3 (by simp))
  have hl : ∀ q ∈ [K.wb, b], w0.heap.size ≤ q ∧ (K.tag q = 0 ∨ K.tag q = i + 1) := fun q hq => by
    simp only [List.mem_cons, List.not_mem_nil, or_false] at hq
    rcases hq with rfl | rfl
    · exact ⟨hwt.2, .inl hwt.1⟩
    · exact ⟨HBT.out.2, .inr HBT.out.1⟩
  have hbl : b < w.heap.size := HY.out.lt
  have hkl : ∀ g ∈ k.all, g < w2.heap.size := fun g hg => ND.out.lt g hg
  have hkt : ∀ g ∈ k.all, (K.upd i k w.heap.size w2.heap.size).tag g = i + 1 := fun g hg => by
    show (if g < w.heap.size then K.tag g else if g ∈ k.all then i + 1 else if g < w2.heap.size then 5 else 9) = i + 1
    rcases KA.out.2.1 g hg with rfl | q
    · rw [if_pos hbl]; exact HBT.out.1
    · rw [if_neg (by have := S1.out; omega), if_pos hg]
  have hrl : x.ru ≠ [] → ∀ a, k.rp = some a → a.block < w2.heap.size := fun hn a e => by
    obtain ⟨r, hr'⟩ := List.exists_mem_of_ne_nil _ hn
    obtain ⟨j, hj⟩ := List.getElem?_of_mem hr'
    obtain ⟨g, o, e2, q0, _⟩ := ND.out.ru j r hj
    rw [e] at e2
    cases e2
    have q : g < w2.heap.size := tlt q0
    exact q
  refine ⟨rfl, K.upd i k w.heap.size w2.heap.size, ?_, Mv.list HW.out hC (fun b hb => by have := (hl b hb).2; omega) (fun g hg => if_pos hg) rfl rfl⟩
  have nd3 : Nd w0 w3 k (No.new i (x.yb i).oned x.ru) 0 0 := ND.out.kept (l := [K.wb]) (ChgL.one g3 (by simp)) (fun g hg hm => by
      simp only [List.mem_cons, List.not_mem_nil, or_false] at hm
      subst hm
      rcases KA.out.2.1 _ hg with e | q
      · exact HNE.out e.symm
      · have := S1.out; omega) (fun hn a ea hm => by
      simp only [List.mem_cons, List.not_mem_nil, or_false] at hm
      have := KA.out.2.2 hn a ea
      have := S1.out
      omega) (fun g hg => by simp only [List.mem_cons, List.not_mem_nil, or_false] at hg; subst hg; exact hwt.2)
  have mine : SdP w0 w3 (K.upd i k w.heap.size w2.heap.size) (x.risen i) t i := .inl ⟨k, _, 0, 0, setN_same _ _ _, setN_same _ _ _, nd3, by rw [KA.out.1]; exact HD.out.2.1, by omega, by omega, Int.le_refl _, Int.natCast_nonneg _, HO.out.ru, rfl, fun hn a ea => by
    have q1 := KA.out.2.2 hn a ea
    have q2 := hrl hn a ea
    show (if a.block < w.heap.size then K.tag a.block else if a.block ∈ k.all then i + 1 else if a.block < w2.heap.size then 5 else 9) = 5
    rw [if_neg (by have := S1.out; omega), if_neg (nd3.rb hn a ea).2, if_pos q2]⟩
  have mineP : ∀ g ∈ (K.upd i k w.heap.size w2.heap.size).part (i + 1), (K.upd i k w.heap.size w2.heap.size).tag g = i + 1 ∧ w0.heap.size ≤ g := fun g hg => by
    rw [part_up hi (k := k) (setN_same _ _ _)] at hg
    exact ⟨hkt g hg, ND.out.g0 g hg⟩
  refine HW.out.make [K.wb, b] hC (fun b hb => ⟨(hl b hb).1, by have := (hl b hb).2; omega⟩) (Nat.le_refl _) (fun g hg => if_pos hg) (fun g hg => ?_) rfl hWB ?_ ?_ (.inr ⟨rfl, rfl, rfl⟩) (.inr ⟨rfl, rfl, rfl, fun b hb => by have := (hl b hb).2; omega⟩) (.inr ⟨rfl, rfl, fun b hb => by have := (hl b hb).2; omega⟩)
  · rw [hsz] at hg
    show (if g < w.heap.size then K.tag g else if g ∈ k.all then i + 1 else if g < w2.heap.size then 5 else 9) = 9
    rw [if_neg (by have := C2.out.size; omega), if_neg (fun hm => by have := hkl g hm; omega), if_neg (by omega)]
  · rcases two_cases hi with rfl | rfl
    · exact .inl ⟨mine, mineP⟩
    · exact .inr ⟨rfl, rfl, rfl, rfl, fun b hb => by have := (hl b hb).2; omega⟩
  · rcases two_cases hi with rfl | rfl
    · exact .inr ⟨rfl, rfl, rfl, rfl, fun b hb => by have := (hl b hb).2; omega⟩
    · exact .inl ⟨mine, mineP⟩
/-- a node comes up: its error, what becomes of it. -/
def Wo.roE (W : Wo) (n : Int) : Nat := if 0 ≤ n ∧ n < 2 then (if (W.nd n.toNat).isSome then 11 else 0) else 2
def Wo.upped (W : Wo) (n : Int) : Wo := if W.roE n = 0 then W.risen n.toNat else W
set_option maxRecDepth 100000 in
theorem rup_wd {w0 w : World} {K : WK} {x : Wo} {t : Nat} {s : Nat → Addr} (S : SeM w0 s) (h : Wd w0 w K x t) (n : Int) (N : ∀ i : Nat, n = i → i < 2 → x.nd i = none → ∃ b, K.yk i = some b ∧ NewOk i (x.yb i).oned x.ru) :
    Calls Tryz.prog 22 #[.pointer (some ⟨K.wb, 0, none⟩), .int .i64 n] w fun e w' => e = .returned (terr s (x.roE n)) ∧ ∃ K', Wd w0 w' K' (x.upped n) t ∧ Mv K K' w w' := by
  have HS : Hid (SeM w0 s) := S
  have HSW : Hid (SeM w s) := S.below h.bl
  have HW : Hid (Wd w0 w K x t) := h
  have HO : Hid (∀ i : Nat, n = i → i < 2 → x.nd i = none → ∃ b, K.yk i = some b ∧ NewOk i (x.yb i).oned x.ru) := N
  clear S h N
  go_enter Tryz.func22, Tryz.ntmps22
  go_wp2_with fail
  refine (whas_any K.wb n w _ rfl).mono ?_
  rintro e w1 ⟨rfl, hw⟩
  obtain rfl := hw.symm
  clear hw
  by_cases h2 : 0 ≤ n ∧ n < 2
  · rw [decide_eq_true h2]
    obtain ⟨i, rfl⟩ : ∃ i : Nat, n = i := ⟨n.toNat, by omega⟩
    have hi : i < 2 := by omega
    have HI : Hid (i < 2) := hi
    have HQ : Hid ((K.nk i).isSome = (x.nd i).isSome) := (HW.out.sd hi).iff
    have HE : Hid (x.roE (i : Int) = if (x.nd i).isSome then 11 else 0) := by show _ = _; unfold Wo.roE; rw [if_pos h2, Int.toNat_natCast]
    have i0 : (0 : Int) ≤ (i : Int) := by omega
    have i1 : (i : Int) < 2 := by omega
    have c4 : w.cell? ⟨K.wb, 4, none⟩ = some (.slice K.rp x.ru.length K.rc) := HW.out.wb.c 4
    clear h2
    go_wp2_with fail
    refine (isUp_any HW.out.wb HI.out).mono ?_
    rintro e w2 ⟨rfl, hw⟩
    obtain rfl := hw.symm
    clear hw
    cases hk : (K.nk i).isSome
    · have hnone : x.nd i = none := by have := HQ.out; rw [hk] at this; cases hq : x.nd i with | none => rfl | some y => rw [hq] at this; cases this
      obtain ⟨b, hb, ho⟩ := HO.out i rfl HI.out hnone
      have HX : Hid (x.roE (i : Int) = 0 ∧ x.upped (i : Int) = x.risen i) := by
        have e : x.roE (i : Int) = 0 := by rw [HE.out, hnone]; rfl
        exact ⟨e, by unfold Wo.upped; rw [if_pos e, Int.toNat_natCast]⟩
      have HR : Hid (x.nd i = none ∧ K.yk i = some b ∧ NewOk i (x.yb i).oned x.ru) := ⟨hnone, hb, ho⟩
      clear hk hnone hb ho
      go_wp2_with fail
      refine (rise_wd HS.out HW.out HI.out HR.out.1 HR.out.2.1 HR.out.2.2).mono ?_
      rintro e w3 ⟨rfl, K', wd, mv⟩
      have W3 : Hid (Wd w0 w3 K' (x.risen i) t ∧ Mv K K' w w3) := ⟨wd, mv⟩
      clear wd mv
      go_wp2_with fail
      go_ret
      exact ⟨by rw [HX.out.1]; rfl, K', by rw [HX.out.2]; exact W3.out.1, W3.out.2⟩
    · have HX : Hid (x.roE (i : Int) = 11 ∧ x.upped (i : Int) = x) := by
        have e : x.roE (i : Int) = 11 := by rw [HE.out, ← HQ.out, hk]; rfl
        exact ⟨e, by unfold Wo.upped; rw [if_neg (by omega)]⟩
      have s10 := HSW.out.c10
      clear hk
      go_wp2_with fail
      go_ret
      exact ⟨by rw [HX.out.1]; rfl, K, by rw [HX.out.2]; exact HW.out, Mv.of (Below.refl _ _)⟩
  · rw [decide_eq_false h2]
    have HX : Hid (x.roE n = 2 ∧ x.upped n = x) := by
      have e : x.roE n = 2 := by unfold Wo.roE; rw [if_neg h2]
      exact ⟨e, by unfold Wo.upped; rw [if_neg (by omega)]⟩
    have s1 := HSW.out.c1
    clear h2
    go_wp2_with fail
    go_ret
    exact ⟨by rw [HX.out.1]; rfl, K, by rw [HX.out.2]; exact HW.out, Mv.of (Below.refl _ _)⟩
end Go.Proofs.YtenonidmgpmohaaGreatDoor

namespace Go.Proofs.YtenonidmgpmohaaGreatDoor
open Go.RowKit

theorem FlP.sl {w : World} {K : WK} {x : Wo} (h : FlP w K x) : ∃ p c, slV K.fg x.fl.length = .slice p x.fl.length c := by
  rcases h.rows with ⟨e1, e2⟩ | ⟨g, c, _, e, _⟩
  · rw [e1, e2]; exact ⟨none, 0, rfl⟩
  · rw [e]; exact ⟨_, _, rfl⟩
theorem flies_any {w : World} {K : WK} {x : Wo} (hb : WdB w K x) (hf : FlP w K x) (n : Int) (q : Bool) (hq : decide (0 ≤ n ∧ n < x.fl.length) = q) : Calls Tryz.prog 30 #[.pointer (some ⟨K.wb, 0, none⟩), .int .i64 n] w fun e w' => e = .returned (.bool q) ∧ w' = w := by
  have c7 : w.cell? ⟨K.wb, 7, none⟩ = some (slV K.fg x.fl.length) := hb.c 7
  obtain ⟨p, c, e⟩ := hf.sl
  rw [e] at c7
  clear e hb hf
  by_cases h0 : 0 ≤ n
  · by_cases h2 : n < x.fl.length
    · obtain rfl : q = true := by rw [← hq]; exact decide_eq_true ⟨h0, h2⟩
      clear hq
      go_enter Tryz.func30, Tryz.ntmps30
      go_wp2_with fail
      go_ret
      exact ⟨rfl, rfl⟩
    · obtain rfl : q = false := by rw [← hq]; exact decide_eq_false (fun h => h2 h.2)
      clear hq
      go_enter Tryz.func30, Tryz.ntmps30
      go_wp2_with fail
      go_ret
      exact ⟨rfl, rfl⟩
  · obtain rfl : q = false := by rw [← hq]; exact decide_eq_false (fun h => h0 h.1)
    clear hq
    go_enter Tryz.func30, Tryz.ntmps30
    go_wp2_with fail
    go_ret
    exact ⟨rfl, rfl⟩
theorem zip_erase {α β γ : Type} (f : α → β → γ) : ∀ (l : List α) (m : List β) (k : Nat), m.length = l.length → (List.zipWith f l m).eraseIdx k = List.zipWith f (l.eraseIdx k) (m.eraseIdx k)
  | [], _, _, _ => by simp
  | _ :: _, [], _, h => by simp at h
  | a :: l, b :: m, 0, _ => by simp
  | a :: l, b :: m, k + 1, h => by simp [zip_erase f l m k (by simpa using h)]
def WK.land (K : WK) (k : Nat) : WK := { K with cv := K.cv.eraseIdx k }
theorem WdB.land {w : World} {K : WK} {x : Wo} (h : WdB w K x) {g c k : Nat} (hg : K.fg = some (g, c)) (hk : k < x.fl.length) : WdB (w.setCell ⟨K.wb, 7, none⟩ (.slice (some ⟨g, 0, none⟩) (x.fl.length - 1) c)) (K.land k) (x.landed k) := by
  unfold WdB
  show (w.setCell ⟨K.wb, 7, none⟩ (.slice (some ⟨g, 0, none⟩) (x.fl.length - 1) c)).heap[K.wb]? = _
  rw [heap_setCell_same w _ _ _ _ _ h]
  show _ = some (Obj.cells #[ndV (K.nk 0), ybV (K.yk 0), ndV (K.nk 1), ybV (K.yk 1), .slice K.rp x.ru.length K.rc, .int .i64 x.hn, .int .i64 x.he, slV K.fg (x.fl.eraseIdx k).length, slV K.eg x.ev.length] 67 (0, 0))
  rw [hg, List.length_eraseIdx_of_lt hk]
  rfl
set_option maxRecDepth 100000 in
set_option maxHeartbeats 1000000 in
theorem land_wd {w0 w : World} {K : WK} {x : Wo} {t k : Nat} (h : Wd w0 w K x t) (hk : k < x.fl.length) :
    Calls Tryz.prog 31 #[.pointer (some ⟨K.wb, 0, none⟩), .int .i64 k] w fun e w' => e = .returned (.tuple #[]) ∧ Wd w0 w' (K.land k) (x.landed k) t ∧ Mv K (K.land k) w w' ∧ ∀ tt v, NtOk w K tt v → NtOk w' (K.land k) tt v := by
  have hrows := h.fl.rows
  rcases hrows with ⟨_, e⟩ | ⟨g, c, cur, hg, R, hc⟩
  · rw [e] at hk; simp at hk
  have HW : Hid (Wd w0 w K x t) := h
  have HK : Hid (k < x.fl.length) := hk
  have HG : Hid (K.fg = some (g, c)) := hg
  have HR : Hid (RwB w g c (nfR x.fl K.cv) cur) := R
  have hrl : (nfR x.fl K.cv).length = x.fl.length := nfR_len h.fl.len
  have HRL : Hid ((nfR x.fl K.cv).length = x.fl.length) := hrl
  have HC : Hid (c ≤ 9223372036854775807) := hc
  have c7 : w.cell? ⟨K.wb, 7, none⟩ = some (.slice (some ⟨g, 0, none⟩) x.fl.length c) := by have := h.wb.c 7; rw [hg] at this; exact this
  have HGT : Hid (K.tag g = 3 ∧ w0.heap.size ≤ g) := h.tg 3 (by omega) g (by simp [WK.part, hg])
  have HNE : Hid (K.wb ≠ g) := fun e => by have := HGT.out.1; rw [← e, h.wb0.1] at this; omega
  have hwr : IntKind.i64.wrap ((k : Int) + 1) = (k : Int) + 1 := by have := h.fl.le; rw [IntKind.wrap_i64]; omega
  have HDL := ndelete_any g c k (nfR x.fl K.cv) cur w R (by omega) hc
  rw [hrl] at HDL
  have HD : Hid (Calls Tryz.prog 58 #[.slice (some ⟨g, 0, none⟩) x.fl.length c, .int .i64 k, .int .i64 ((k : Int) + 1)] w fun e w' => e = .returned (.slice (some ⟨g, 0, none⟩) (x.fl.length - 1) c) ∧ (∃ cur', RwB w' g c ((nfR x.fl K.cv).eraseIdx k) cur') ∧ Chg g w w') := HDL
  clear h hk hg R hrl hc HDL
  go_enter Tryz.func31, Tryz.ntmps31
  go_wp2_with fail
  refine HD.out.mono ?_
  rintro e w1 ⟨rfl, ⟨cur', r1⟩, g1⟩
  have R1 : Hid (RwB w1 g c ((nfR x.fl K.cv).eraseIdx k) cur') := r1
  have G1 : Hid (Chg g w w1) := g1
  have WB1 : Hid (WdB w1 K x) := HW.out.wb.kept (g1.block _ HW.out.wb.lt HNE.out)
  have d7 := g1.keeps HNE.out c7
  have f7 := WB1.out.fr 7
  clear r1 g1 c7 hwr
  go_wp2_with fail
  go_end0
  have g3 : Chg K.wb w1 (w1.setCell ⟨K.wb, 7, none⟩ (.slice (some ⟨g, 0, none⟩) (x.fl.length - 1) c)) := Chg.set _ _ _ _
  have hWB := WB1.out.land HG.out HK.out
  generalize w1.setCell ⟨K.wb, 7, none⟩ (.slice (some ⟨g, 0, none⟩) (x.fl.length - 1) c) = w3 at *
  have hC : ChgL [K.wb, g] w w3 := (ChgL.one G1.out (by simp)).trans (ChgL.one g3 (by simp))
  have hwt := HW.out.wb0
  have hl : ∀ q ∈ [K.wb, g], w0.heap.size ≤ q ∧ (K.tag q = 0 ∨ K.tag q = 3) := fun q hq => by
    simp only [List.mem_cons, List.not_mem_nil, or_false] at hq
    rcases hq with rfl | rfl
    · exact ⟨hwt.2, .inl hwt.1⟩
    · exact ⟨HGT.out.2, .inr HGT.out.1⟩
  have hk := HK.out
  have hlen := HW.out.fl.len
  have hnt : ∀ tt v, NtOk w K tt v → NtOk w3 (K.land k) tt v := fun tt v q => (q.kept hC (fun b hb => by have := (hl b hb).2; omega)).turn (fun _ e => e)
  refine ⟨rfl, ?_, Mv.list HW.out hC (fun b hb => by have := (hl b hb).2; omega) (fun _ _ => rfl) rfl rfl, hnt⟩
  have fl : FlP w3 (K.land k) (x.landed k) := by
    refine ⟨?_, ?_, fun i tt v ht hv => ?_, .inr ⟨g, c, cur', HG.out, ?_, HC.out⟩⟩
    · show (K.cv.eraseIdx k).length = (x.fl.eraseIdx k).length
      rw [List.length_eraseIdx_of_lt (by omega), List.length_eraseIdx_of_lt hk, hlen]
    · show (x.fl.eraseIdx k).length ≤ 200
      rw [List.length_eraseIdx_of_lt hk]
      have := HW.out.fl.le
      omega
    · have ht' : (x.fl.eraseIdx k)[i]? = some tt := ht
      have hv' : (K.cv.eraseIdx k)[i]? = some v := hv
      rw [List.getElem?_eraseIdx] at ht' hv'
      by_cases hik : i < k
      · rw [if_pos hik] at ht' hv'
        exact hnt tt v (HW.out.fl.ok i tt v ht' hv')
      · rw [if_neg hik] at ht' hv'
        exact hnt tt v (HW.out.fl.ok (i + 1) tt v ht' hv')
    · have e : nfR (x.landed k).fl (K.land k).cv = (nfR x.fl K.cv).eraseIdx k := (zip_erase _ _ _ _ hlen).symm
      rw [e]
      exact R1.out.kept (g3.block g R1.out.lt (fun q => HNE.out q.symm))
  refine HW.out.make [K.wb, g] hC (fun b hb => ⟨(hl b hb).1, by have := (hl b hb).2; omega⟩) (Nat.le_refl _) (fun _ _ => rfl) (fun b hb => HW.out.al b (Nat.le_trans hC.size hb)) rfl hWB (.inr ⟨rfl, rfl, rfl, rfl, fun b hb => by have := (hl b hb).2; omega⟩) (.inr ⟨rfl, rfl, rfl, rfl, fun b hb => by have := (hl b hb).2; omega⟩) (.inr ⟨rfl, rfl, rfl⟩) (.inl ⟨fl, fun b hb => ?_⟩) (.inr ⟨rfl, rfl, fun b hb => by have := (hl b hb).2; omega⟩)
  have : b ∈ K.part 3 := hb
  exact HW.out.tg 3 (by omega) b this
/-- a note's number: its error. -/
def Wo.flE (W : Wo) (n : Int) : Nat := if 0 ≤ n ∧ n < W.fl.length then 0 else 4
end Go.Proofs.YtenonidmgpmohaaGreatDoor

namespace Go.Proofs.YtenonidmgpmohaaGreatDoor
open Go.RowKit

theorem WdB.heard {w : World} {K : WK} {x : Wo} (h : WdB w K x) (a b : Int) : WdB ((w.setCell ⟨K.wb, 5, none⟩ (.int .i64 a)).setCell ⟨K.wb, 6, none⟩ (.int .i64 b)) K { x with hn := a, he := b } := by
  have h1 := heap_setCell_same w _ 5 _ _ (.int .i64 a) h
  have h2 := heap_setCell_same _ _ 6 _ _ (.int .i64 b) h1
  exact h2
/-- the switch knows another one. -/
theorem Wd.onSw {w0 w w' : World} {K : WK} {x : Wo} {t : Nat} (h : Wd w0 w K x t) {a b : Int} (g : Chg K.wb w w') (hb : WdB w' K { x with hn := a, he := b }) : Wd w0 w' K { x with hn := a, he := b } t := by
  have hwt := h.wb0
  have hC : ChgL [K.wb] w w' := ChgL.one g (by simp)
  have hl : ∀ q ∈ [K.wb], w0.heap.size ≤ q ∧ K.tag q = 0 := fun q hq => by
    simp only [List.mem_cons, List.not_mem_nil, or_false] at hq
    subst hq
    exact ⟨hwt.2, hwt.1⟩
  exact h.make [K.wb] hC (fun b hb => ⟨(hl b hb).1, by have := (hl b hb).2; omega⟩) (Nat.le_refl _) (fun _ _ => rfl) (fun b hb => h.al b (Nat.le_trans hC.size hb)) rfl hb (.inr ⟨rfl, rfl, rfl, rfl, fun b hb => by have := (hl b hb).2; omega⟩) (.inr ⟨rfl, rfl, rfl, rfl, fun b hb => by have := (hl b hb).2; omega⟩) (.inr ⟨rfl, rfl, rfl⟩) (.inr ⟨rfl, rfl, rfl, fun b hb => by have := (hl b hb).2; omega⟩) (.inr ⟨rfl, rfl, fun b hb => by have := (hl b hb).2; omega⟩)
set_option maxRecDepth 100000 in
theorem hear_wd {w0 w : World} {K : WK} {x : Wo} {t : Nat} (h : Wd w0 w K x t) (n : Nf) (v : Value) :
    Calls Tryz.prog 32 #[.pointer (some ⟨K.wb, 0, none⟩), .agg #[.int .i64 n.fr, .int .i64 n.li, .int .i64 n.ep, .bool n.cl, v]] w fun e w' => e = .returned (.tuple #[]) ∧ Wd w0 w' K (x.heard n) t ∧ Mv K K w w' := by
  have HW : Hid (Wd w0 w K x t) := h
  clear h
  go_enter Tryz.func32, Tryz.ntmps32
  go_wp2_with fail
  have HB1 : Hid (Below w.heap.size w (w.alloc (.cells #[.int .i64 n.fr, .int .i64 n.li, .int .i64 n.ep, .bool n.cl, v] 78))) := aB _ _
  have HZ1 : Hid (NfZ (w.alloc (.cells #[.int .i64 n.fr, .int .i64 n.li, .int .i64 n.ep, .bool n.cl, v] 78)) w.heap.size n v) := NfZ.new w n v
  generalize w.alloc (.cells #[.int .i64 n.fr, .int .i64 n.li, .int .i64 n.ep, .bool n.cl, v] 78) = w1 at *
  have HL : Hid (w.heap.size ≤ w.heap.size) := Nat.le_refl _
  generalize w.heap.size = Q at HZ1 ⊢
  have W1 : Hid (Wd w0 w1 K x t) := HW.out.below HB1.out
  have z0 := HZ1.out.b.c0
  have z2 := HZ1.out.b.c2
  have c5 : w1.cell? ⟨K.wb, 5, none⟩ = some (.int .i64 x.hn) := W1.out.wb.c 5
  have c6 : w1.cell? ⟨K.wb, 6, none⟩ = some (.int .i64 x.he) := W1.out.wb.c 6
  by_cases hlt : x.he < n.ep
  · have HX : Hid (x.heard n = { x with hn := n.fr, he := n.ep }) := by show _ = _; unfold Wo.heard; rw [if_pos hlt]
    go_quiet (fail)
    have D1 : Hid (Below w1.heap.size w1 (w1.drewN nq)) := ⟨rfl, rfl, rfl, Nat.le_refl _, fun _ _ => rfl⟩
    have W2 : Hid (Wd w0 (w1.drewN nq) K x t) := W1.out.below D1.out
    have M2 : Hid (Mv K K w (w1.drewN nq)) := (Mv.of HB1.out).then D1.out
    have y0 := tk D1.out z0
    have y2 := tk D1.out z2
    generalize w1.drewN nq = w2 at *
    clear z0 z2 c5 c6 hlt
    have f5 := W2.out.wb.fr 5
    have f6 := W2.out.wb.fr 6
    have c5 : w2.cell? ⟨K.wb, 5, none⟩ = some (.int .i64 x.hn) := W2.out.wb.c 5
    have c6 : w2.cell? ⟨K.wb, 6, none⟩ = some (.int .i64 x.he) := W2.out.wb.c 6
    go_wp2_with fail
    go_end0
    have g : Chg K.wb w2 ((w2.setCell ⟨K.wb, 5, none⟩ (.int .i64 n.fr)).setCell ⟨K.wb, 6, none⟩ (.int .i64 n.ep)) := (Chg.set _ _ _ _).trans (Chg.set _ _ _ _)
    exact ⟨rfl, by rw [HX.out]; exact W2.out.onSw g (W2.out.wb.heard _ _), M2.out.trans (Mv.one W2.out (i := 0) (by omega) (ChgL.one g (l := [K.wb]) (by simp)) (fun b hb => hb))⟩
  · have HX : Hid (x.heard n = x) := by show _ = _; unfold Wo.heard; rw [if_neg hlt]
    go_quiet (fail)
    have D1 : Hid (Below w1.heap.size w1 (w1.drewN nq)) := ⟨rfl, rfl, rfl, Nat.le_refl _, fun _ _ => rfl⟩
    have W2 : Hid (Wd w0 (w1.drewN nq) K x t) := W1.out.below D1.out
    have M2 : Hid (Mv K K w (w1.drewN nq)) := (Mv.of HB1.out).then D1.out
    generalize w1.drewN nq = w2 at *
    clear z0 z2 c5 c6 hlt
    go_wp2_with fail
    go_end0
    exact ⟨rfl, by rw [HX.out]; exact W2.out, M2.out⟩
theorem handed_some {x : Wo} {n : Nf} {i : Nat} {y : No} (e : (1 - n.fr).toNat = i) (hy : x.nd i = some y) : x.handed n = { x with nd := setN x.nd i (some (y.hrd n)) } := by unfold Wo.handed; rw [e, hy]
theorem handed_none {x : Wo} {n : Nf} {i : Nat} (e : (1 - n.fr).toNat = i) (hy : x.nd i = none) : x.handed n = x := by unfold Wo.handed; rw [e, hy]
theorem hrd_same (x : No) (n : Nf) : (x.hrd n).ru = x.ru ∧ (x.hrd n).id = x.id ∧ (x.hrd n).now = x.now := by
  unfold No.hrd
  split <;> exact ⟨rfl, rfl, rfl⟩
set_option maxRecDepth 100000 in
set_option maxHeartbeats 2000000 in
theorem hand_wd {w0 w : World} {K : WK} {x : Wo} {t : Nat} {s : Nat → Addr} (S : SeM w0 s) (h : Wd w0 w K x t) (n : Nf) (v : Value) (N : NtOk w K n v) :
    Calls Tryz.prog 33 #[.pointer (some ⟨K.wb, 0, none⟩), .agg #[.int .i64 n.fr, .int .i64 n.li, .int .i64 n.ep, .bool n.cl, v]] w fun e w' => e = .returned (.tuple #[]) ∧ Wd w0 w' K (x.handed n) t ∧ Mv K K w w' := by
  obtain ⟨i, hi, hie⟩ : ∃ i : Nat, i < 2 ∧ n.fr = 1 - (i : Int) := by
    rcases N.2.2.2 with e | e
    · exact ⟨1, by omega, by omega⟩
    · exact ⟨0, by omega, by omega⟩
  have HS : Hid (SeM w0 s) := S
  have HW : Hid (Wd w0 w K x t) := h
  have HN : Hid (NtOk w K n v) := N
  have HI : Hid (i < 2) := hi
  have HT : Hid ((1 - n.fr).toNat = i) := (by omega : (1 - n.fr).toNat = i)
  have hsub : IntKind.i64.wrap (1 - n.fr) = (i : Int) := by rw [IntKind.wrap_i64]; omega
  have hsub2 : 1 - n.fr = (i : Int) := by omega
  have i0 : (0 : Int) ≤ (i : Int) := by omega
  have i1 : (i : Int) < 2 := by omega
  have HSU : Hid (IntKind.i64.wrap (1 - n.fr) = (i : Int) ∧ 1 - n.fr = (i : Int)) := ⟨hsub, hsub2⟩
  clear S h N hi hie
  go_enter Tryz.func33, Tryz.ntmps33
  go_wp2_with fail
  have HB1 : Hid (Below w.heap.size w (w.alloc (.cells #[.int .i64 n.fr, .int .i64 n.li, .int .i64 n.ep, .bool n.cl, v] 78))) := aB _ _
  have HZ1 : Hid (NfZ (w.alloc (.cells #[.int .i64 n.fr, .int .i64 n.li, .int .i64 n.ep, .bool n.cl, v] 78)) w.heap.size n v) := NfZ.new w n v
  generalize w.alloc (.cells #[.int .i64 n.fr, .int .i64 n.li, .int .i64 n.ep, .bool n.cl, v] 78) = w1 at *
  generalize w.heap.size = Q at HZ1 ⊢
  have W1 : Hid (Wd w0 w1 K x t) := HW.out.below HB1.out
  have z0 := HZ1.out.b.c0
  go_quiet (fail)
  have D1 : Hid (Below w1.heap.size w1 (w1.drewN nq)) := ⟨rfl, rfl, rfl, Nat.le_refl _, fun _ _ => rfl⟩
  have W2 : Hid (Wd w0 (w1.drewN nq) K x t) := W1.out.below D1.out
  have B2 : Hid (Below w.heap.size w (w1.drewN nq)) := t2 HB1.out D1.out
  have Z2 : Hid (NfZ (w1.drewN nq) Q n v) := HZ1.out.below D1.out
  generalize w1.drewN nq = w2 at *
  clear z0
  go_wp2_with fail
  refine (isUp_any W2.out.wb HI.out).mono ?_
  rintro e w3 ⟨rfl, hw⟩
  obtain rfl := hw.symm
  clear hw
  cases hy : x.nd i with
  | none =>
    have HX : Hid (x.handed n = x) := handed_none HT.out hy
    have hk : (K.nk i).isSome = false := by rw [(W2.out.sd HI.out).iff, hy]; rfl
    rw [hk]
    clear hk hy
    go_wp2_with fail
    go_end0
    exact ⟨rfl, by rw [HX.out]; exact W2.out, Mv.of B2.out⟩
  | some y =>
    have HX : Hid (x.handed n = { x with nd := setN x.nd i (some (y.hrd n)) }) := handed_some HT.out hy
    have hks : (K.nk i).isSome = true := by rw [(W2.out.sd HI.out).iff, hy]; rfl
    rw [hks]
    obtain ⟨k, m, n', hk, nd, hyk, q1, q2, q3, q4, q5, q6, q7, q8⟩ := W2.out.up HI.out hy
    obtain ⟨⟨p, cap, rfl, R, ht⟩, hl, ho, _⟩ := HN.out
    have HC : Hid (∀ u, Below w2.heap.size w2 u → Calls Tryz.prog 59 #[.pointer (some ⟨k.nd, 0, none⟩), .agg #[.int .i64 n.fr, .int .i64 n.li, .int .i64 n.ep, .bool n.cl, .slice p n.cs.length cap]] u fun e w' => e = .returned (terr s (y.heE n)) ∧ Wd w0 w' K (x.handed n) t ∧ Mv K K w w') := fun u hu =>
      (hear_nd HS.out (nd.below hu) n p cap (R.below (t2 B2.out hu)) (fun g o e q => by have := ht g o e; rw [q, q8 _ k.m_mi] at this; have := HI.out; omega) (by omega) ho).mono fun e w' ⟨he, n2, c2⟩ => by
        have W3 := W2.out.below hu
        have q := hrd_same y n
        refine ⟨he, ?_, ((Mv.of B2.out).then hu).trans (Mv.one W3 (i := i + 1) (by have := HI.out; omega) c2 (by rw [part_up HI.out hk]; exact fun _ h => h))⟩
        rw [HX.out]
        exact W3.onNd HI.out hk hy n2 c2 (Nat.le_refl _) (by omega) (by omega) (by rw [q.2.2]; exact q3) (by rw [q.2.2]; omega) q.1 q.2.1
    have cn := W2.out.wb.cn HI.out
    rw [hk] at cn
    simp only [ndV, Option.map_some] at cn
    have zb := Z2.out.b
    obtain ⟨z0, z1, z2, z3, z4⟩ := zb
    clear hks hk hy nd hyk q1 q2 q3 q4 q5 q6 q7 q8 R ht hl ho HN
    go_wp2_with fail
    go_region_with (first
      | (go_at_call 59; refine (HC.out _ (by first | exact Below.refl _ _ | exact (Below.refl _ _).drew | exact (Below.refl _ _).drew.drew)).mono ?_; rintro e w3 ⟨rfl, hw3, hm3⟩;
          have W3 : Hid (Wd w0 w3 K (x.handed n) t) := hw3; have M3 : Hid (Mv K K w w3) := hm3; clear hw3 hm3))
    all_goals go_wp2_with fail
    all_goals go_end0
    all_goals exact ⟨rfl, W3.out, M3.out⟩
/-- a note is delivered. -/
def Wo.dlv (W : Wo) (n : Int) : Wo := if W.flE n = 0 then (match W.fl[n.toNat]? with | some t => W.delivered n.toNat t | none => W) else W
set_option maxRecDepth 100000 in
set_option maxHeartbeats 2000000 in
theorem deliver_wm {w0 w : World} {K : WK} {x : Wo} {t : Nat} {s : Nat → Addr} (S : SeM w0 s) (h : Wd w0 w K x t) (n : Int) :
    Calls Tryz.prog 10 #[.pointer (some ⟨K.wb, 0, none⟩), .int .i64 n] w fun e w' => e = .returned (terr s (x.flE n)) ∧ ∃ K', Wd w0 w' K' (x.dlv n) t ∧ Mw K K' w w' := by
  have HS : Hid (SeM w0 s) := S
  have HSW : Hid (SeM w s) := S.below h.bl
  have HW : Hid (Wd w0 w K x t) := h
  clear S h
  go_enter Tryz.func10, Tryz.ntmps10
  go_wp2_with fail
  refine (flies_any HW.out.wb HW.out.fl n _ rfl).mono ?_
  rintro e w1 ⟨rfl, hw⟩
  obtain rfl := hw.symm
  clear hw
  by_cases h2 : 0 ≤ n ∧ n < x.fl.length
  · rw [decide_eq_true h2]
    obtain ⟨i, rfl⟩ : ∃ i : Nat, n = i := ⟨n.toNat, by omega⟩
    have hi : i < x.fl.length := by omega
    have HI : Hid (i < x.fl.length) := hi
    obtain ⟨tt, htt⟩ : ∃ tt, x.fl[i]? = some tt := ⟨x.fl[i], List.getElem?_eq_getElem hi⟩
    obtain ⟨v, hv⟩ : ∃ v, K.cv[i]? = some v := ⟨K.cv[i]'(by rw [HW.out.fl.len]; exact hi), List.getElem?_eq_getElem _⟩
    have HN : Hid (NtOk w K tt v) := HW.out.fl.ok i tt v htt hv
    have HX : Hid (x.flE (i : Int) = 0 ∧ x.dlv (i : Int) = x.delivered i tt) := by
      have e : x.flE (i : Int) = 0 := by unfold Wo.flE; rw [if_pos h2]
      exact ⟨e, by unfold Wo.dlv; rw [if_pos e, Int.toNat_natCast, htt]⟩
    rcases HW.out.fl.rows with ⟨_, e⟩ | ⟨g, c, cur, hg, R, hc⟩
    · rw [e] at hi; simp at hi
    have hr := nfR_get htt hv
    have r0 : w.cell? ⟨g, i * 5, none⟩ = some (.int .i64 tt.fr) := R.cell (j := 0) hr (by omega)
    have r1 : w.cell? ⟨g, i * 5 + 1, none⟩ = some (.int .i64 tt.li) := R.cell hr (by omega)
    have r2 : w.cell? ⟨g, i * 5 + 2, none⟩ = some (.int .i64 tt.ep) := R.cell hr (by omega)
    have r3 : w.cell? ⟨g, i * 5 + 3, none⟩ = some (.bool tt.cl) := R.cell hr (by omega)
    have r4 : w.cell? ⟨g, i * 5 + 4, none⟩ = some v := R.cell hr (by omega)
    have c7 : w.cell? ⟨K.wb, 7, none⟩ = some (.slice (some ⟨g, 0, none⟩) x.fl.length c) := by have := HW.out.wb.c 7; rw [hg] at this; exact this
    have i0 : (0 : Int) ≤ (i : Int) := by omega
    have i1 : (i : Int) < (x.fl.length : Int) := by omega
    have i2 : i < x.fl.length := hi
    clear h2 hi htt hv hg R hc hr
    obtain ⟨p, cap, hvs⟩ : ∃ p cap, v = .slice p tt.cs.length cap := by obtain ⟨⟨p, cap, e, _⟩, _⟩ := HN.out; exact ⟨p, cap, e⟩
    subst hvs
    go_wp2_with fail
    have hb1 : Below w.heap.size w (w.alloc (.cells #[.int .i64 tt.fr, .int .i64 tt.li, .int .i64 tt.ep, .bool tt.cl, .slice p tt.cs.length cap] 78)) := aB _ _
    have HZ1 : Hid (NfZ (w.alloc (.cells #[.int .i64 tt.fr, .int .i64 tt.li, .int .i64 tt.ep, .bool tt.cl, .slice p tt.cs.length cap] 78)) w.heap.size tt (.slice p tt.cs.length cap)) := NfZ.new w tt _
    generalize w.alloc (.cells #[.int .i64 tt.fr, .int .i64 tt.li, .int .i64 tt.ep, .bool tt.cl, .slice p tt.cs.length cap] 78) = w1 at *
    have B1 : Hid (Below w.heap.size w w1) := hb1
    have HQ : Hid (K.tag w.heap.size = 9) := HW.out.al _ (Nat.le_refl _)
    generalize w.heap.size = Q at HZ1 HQ ⊢
    have W1 : Hid (Wd w0 w1 K x t) := HW.out.below B1.out
    have N1 : Hid (NtOk w1 K tt (.slice p tt.cs.length cap)) := HN.out.kept (ChgL.of (l := []) B1.out) (by simp)
    clear hb1 r0 r1 r2 r3 r4 c7 i0 i1 i2
    refine (land_wd W1.out HI.out).mono ?_
    rintro e w2 ⟨rfl, w2', m2, n2⟩
    have W2 : Hid (Wd w0 w2 (K.land i) (x.landed i) t) := w2'
    have M2 : Hid (Mv K (K.land i) w w2) := (Mv.of B1.out).trans m2
    have N2 : Hid (NtOk w2 (K.land i) tt (.slice p tt.cs.length cap)) := n2 _ _ N1.out
    have Z2 : Hid (NfZ w2 Q tt (.slice p tt.cs.length cap)) := by show w2.heap[Q]? = _; rw [m2.block Q HZ1.out.lt (.inl HQ.out)]; exact HZ1.out
    clear w2' m2 n2 N1 HZ1 HN
    have zb := Z2.out.b
    obtain ⟨z0, z1, z2, z3, z4⟩ := zb
    cases hcl : tt.cl
    · have HY : Hid (x.delivered i tt = (x.landed i).handed tt) := by show _ = _; unfold Wo.delivered; rw [hcl]; rfl
      rw [hcl] at z3
      have HF : Hid (tt.cl = false) := hcl
      clear hcl
      go_wp2_with fail
      have H3 := hand_wd HS.out W2.out tt _ N2.out
      rw [HF.out] at H3
      refine H3.mono ?_
      rintro e w3 ⟨rfl, w3', m3⟩
      have W3 : Hid (Wd w0 w3 (K.land i) ((x.landed i).handed tt) t ∧ Mv K (K.land i) w w3) := ⟨w3', M2.out.trans m3⟩
      clear w3' m3 H3
      go_wp2_with fail
      go_ret
      exact ⟨by rw [HX.out.1]; rfl, _, by rw [HX.out.2, HY.out]; exact W3.out.1, W3.out.2, fun _ _ e => e⟩
    · have HY : Hid (x.delivered i tt = (x.landed i).heard tt) := by show _ = _; unfold Wo.delivered; rw [hcl]; rfl
      rw [hcl] at z3
      have HF : Hid (tt.cl = true) := hcl
      clear hcl
      go_wp2_with fail
      have H3 := hear_wd W2.out tt (.slice p tt.cs.length cap)
      rw [HF.out] at H3
      refine H3.mono ?_
      rintro e w3 ⟨rfl, w3', m3⟩
      have W3 : Hid (Wd w0 w3 (K.land i) ((x.landed i).heard tt) t ∧ Mv K (K.land i) w w3) := ⟨w3', M2.out.trans m3⟩
      clear w3' m3 H3
      go_wp2_with fail
      go_ret
      exact ⟨by rw [HX.out.1]; rfl, _, by rw [HX.out.2, HY.out]; exact W3.out.1, W3.out.2, fun _ _ e => e⟩
  · rw [decide_eq_false h2]
    have HX : Hid (x.flE n = 4 ∧ x.dlv n = x) := by
      have e : x.flE n = 4 := by unfold Wo.flE; rw [if_neg h2]
      exact ⟨e, by unfold Wo.dlv; rw [if_neg (by omega)]⟩
    have s3 := HSW.out.c3
    clear h2
    go_wp2_with fail
    go_ret
    exact ⟨by rw [HX.out.1]; rfl, K, by rw [HX.out.2]; exact HW.out, Mw.of (Below.refl _ _)⟩
theorem deliver_wd {w0 w : World} {K : WK} {x : Wo} {t : Nat} {s : Nat → Addr} (S : SeM w0 s) (h : Wd w0 w K x t) (n : Int) :
    Calls Tryz.prog 10 #[.pointer (some ⟨K.wb, 0, none⟩), .int .i64 n] w fun e w' => e = .returned (terr s (x.flE n)) ∧ ∃ K', Wd w0 w' K' (x.dlv n) t ∧ Mv K K' w w' :=
  (deliver_wm S h n).mono fun _ _ ⟨e, K', wd, m⟩ => ⟨e, K', wd, m.toMv⟩
end Go.Proofs.YtenonidmgpmohaaGreatDoor
