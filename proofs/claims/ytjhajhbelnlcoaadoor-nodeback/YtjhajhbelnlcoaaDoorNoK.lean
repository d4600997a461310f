/-
  Package node's Inside.
-/
import Derived.Test.YtjhajhbelnlcoaaDoorNoJ
namespace Go.Proofs.YtjhajhbelnlcoaaDoor
open Go.RowKit

def noP : Pk := ⟨0, 0, 0, 0, 0, 0⟩
theorem PkZ.zero (w : World) : PkZ (w.alloc (.cells #[.int .i64 0, .int .i64 0, .int .i64 0, .int .i64 0, .int .i64 0, .int .i64 0] 41)) w.heap.size noP := heap_alloc_new w _
theorem pkz_store {w : World} {Q : Nat} {c : Pk} (h : PkZ w Q c) (d : Pk) :
    ∃ w', (Instr.storeAt 41 (.pointer (some ⟨Q, 0, none⟩)) (.agg #[.int .i64 d.pr, .int .i64 d.a1, .int .i64 d.p1, .int .i64 d.a2, .int .i64 d.p2, .int .i64 d.fl])).run Tryd.prog w = .ok () w' ∧ PkZ w' Q d ∧ Chg Q w w' := by
  have hs : (sizeOf 41).run Tryd.prog w = .ok 6 w := by kernel_rfl
  have hst := run_storeCells_at Tryd.prog Q 0 41 [.int .i64 d.pr, .int .i64 d.a1, .int .i64 d.p1, .int .i64 d.a2, .int .i64 d.p2, .int .i64 d.fl] 0 _ w h (by simp) (fun u hu => by
    simp only [List.mem_cons, List.not_mem_nil, or_false] at hu
    rcases hu with rfl | rfl | rfl | rfl | rfl | rfl <;> rfl)
  refine ⟨w.setRow Q #[.int .i64 d.pr, .int .i64 d.a1, .int .i64 d.p1, .int .i64 d.a2, .int .i64 d.p2, .int .i64 d.fl], ?_, setRow_heap w Q _ _ _ _ h, chg_row _ _ _⟩
  simp only [Instr.storeAt, Instr.sureAddr, Sem.run_bind, Sem.run_pure, Result.andThen_ok, storeVar, hs, Value.cells]
  simp at hst ⊢
  exact hst
theorem set0_chg6 (w : World) (Q : Nat) : Chg Q w ((((((w.setCell ⟨Q, 0, none⟩ (.int .i64 0)).setCell ⟨Q, 1, none⟩ (.int .i64 0)).setCell ⟨Q, 2, none⟩ (.int .i64 0)).setCell ⟨Q, 3, none⟩ (.int .i64 0)).setCell ⟨Q, 4, none⟩ (.int .i64 0)).setCell ⟨Q, 5, none⟩ (.int .i64 0)) :=
  (((((Chg.set _ _ _ _).trans (Chg.set _ _ _ _)).trans (Chg.set _ _ _ _)).trans (Chg.set _ _ _ _)).trans (Chg.set _ _ _ _)).trans (Chg.set _ _ _ _)
theorem set_chg2 (w : World) (P a b : Nat) (u v : Value) : Chg P w ((w.setCell ⟨P, a, none⟩ u).setCell ⟨P, b, none⟩ v) := (Chg.set _ _ _ _).trans (Chg.set _ _ _ _)
/-- what goes on of a packet from inside. -/
def No.inE (x : No) (p : Pk) : Nat := if x.chk p = 0 then x.ouE p else x.chk p
def No.inP (x : No) (p : Pk) : Pk := if x.inE p = 0 then ⟨p.pr, 1, (x.ouF p).po, p.a2, p.p2, p.fl⟩ else noP
def No.ins (x : No) (p : Pk) : No := if x.chk p = 0 then x.ou p else x
theorem chk_err {x : No} {p : Pk} (h : x.chk p = 0) : p.err = 0 := by
  unfold No.chk at h
  by_cases e : p.err = 0
  · exact e
  · rw [if_neg e] at h; exact absurd h e
theorem ou_ru (x : No) (p : Pk) : (x.ou p).ru = x.ru := by
  unfold No.ou
  split
  · unfold No.stp; split <;> rfl
  · unfold No.bg; split <;> rfl
set_option maxRecDepth 100000 in
set_option maxHeartbeats 4000000 in
theorem inside_nd {w0 w : World} {k : Bk} {x : No} {m n : Nat} {s : Nat → Addr} (S : SeM w0 s) (h : Nd w0 w k x m n) (hm : m ≤ 1000000) (h0 : 0 ≤ x.now) (h1 : x.now ≤ 1000000000) (hr : RulesOk x.ru) (p : Pk) (hpp : In6 p.pr) :
    Calls Tryd.prog 9 #[.pointer (some ⟨k.nd, 0, none⟩), p.v] w fun e w' => e = .returned (.tuple #[(x.inP p).v, terr s (x.inE p)]) ∧ Nd w0 w' k (x.ins p) (m + 1) n ∧ ChgL k.all w w' := by
  have HR : Hid (RulesOk x.ru) := hr
  clear hr
  have HS : Hid (SeM w0 s) := S
  have HN : Hid (Nd w0 w k x m n) := h
  have HW : Hid (0 ≤ x.now ∧ x.now ≤ 1000000000 ∧ m ≤ 1000000) := ⟨h0, h1, hm⟩
  have HPP : Hid (In6 p.pr) := hpp
  clear S h h0 h1 hm hpp
  go_enter Tryd.func9, Tryd.ntmps9
  go_wp2_with fail
  have B0 := aB w (.cells #[.int .i64 p.pr, .int .i64 p.a1, .int .i64 p.p1, .int .i64 p.a2, .int .i64 p.p2, .int .i64 p.fl] 41)
  have P1 : Hid (PkZ ((w.alloc (.cells #[.int .i64 p.pr, .int .i64 p.a1, .int .i64 p.p1, .int .i64 p.a2, .int .i64 p.p2, .int .i64 p.fl] 41)).alloc (.cells #[.int .i64 0, .int .i64 0, .int .i64 0, .int .i64 0, .int .i64 0, .int .i64 0] 41)) w.heap.size p) := (PkZ.new w p).below (aB _ _)
  have B1 : Hid (Below w.heap.size w ((w.alloc (.cells #[.int .i64 p.pr, .int .i64 p.a1, .int .i64 p.p1, .int .i64 p.a2, .int .i64 p.p2, .int .i64 p.fl] 41)).alloc (.cells #[.int .i64 0, .int .i64 0, .int .i64 0, .int .i64 0, .int .i64 0, .int .i64 0] 41))) := t2 B0 (aB _ _)
  have Z1 : Hid (PkZ ((w.alloc (.cells #[.int .i64 p.pr, .int .i64 p.a1, .int .i64 p.p1, .int .i64 p.a2, .int .i64 p.p2, .int .i64 p.fl] 41)).alloc (.cells #[.int .i64 0, .int .i64 0, .int .i64 0, .int .i64 0, .int .i64 0, .int .i64 0] 41)) (w.heap.size + 1) noP) := by
    have := PkZ.zero (w.alloc (.cells #[.int .i64 p.pr, .int .i64 p.a1, .int .i64 p.p1, .int .i64 p.a2, .int .i64 p.p2, .int .i64 p.fl] 41))
    show PkZ _ _ _
    simpa using this
  clear B0
  generalize (w.alloc (.cells #[.int .i64 p.pr, .int .i64 p.a1, .int .i64 p.p1, .int .i64 p.a2, .int .i64 p.p2, .int .i64 p.fl] 41)).alloc (.cells #[.int .i64 0, .int .i64 0, .int .i64 0, .int .i64 0, .int .i64 0, .int .i64 0] 41) = w1 at *
  have N1 : Hid (Nd w0 w1 k x m n) := HN.out.below B1.out
  have LW : Hid (w.heap.size ≤ w.heap.size) := Nat.le_refl _
  have LQ : Hid (w.heap.size ≤ w.heap.size + 1) := Nat.le_succ _
  generalize hPe : w.heap.size = P at P1 Z1 LW LQ ⊢
  generalize hQe : P + 1 = Q at Z1 LQ ⊢
  have HNQ : Hid (¬ Q ∈ k.all) := fun hm => by have := HN.out.lt _ hm; omega
  have HNP : Hid (¬ P ∈ k.all) := fun hm => by have := HN.out.lt _ hm; omega
  refine (check_nd HS.out N1.out p).mono ?_
  rintro e w2 ⟨rfl, hb2⟩
  have B2 : Hid (Below w.heap.size w w2) := t2 B1.out hb2
  have N2 : Hid (Nd w0 w2 k x m n) := HN.out.below B2.out
  have P2 : Hid (PkZ w2 P p) := P1.out.below hb2
  have Z2 : Hid (PkZ w2 Q noP) := Z1.out.below hb2
  have S2 : Hid (SeM w2 s) := HS.out.below N2.out.bl
  clear hb2 B1 N1 P1 Z1
  by_cases hc : x.chk p = 0
  · have HP : Hid (p.err = 0) := chk_err hc
    have HE : Hid (x.inE p = x.ouE p) := by show _ = _; unfold No.inE; rw [if_pos hc]
    have HX : Hid (x.ins p = x.ou p) := by show _ = _; unfold No.ins; rw [if_pos hc]
    have HRU : Hid ((x.ou p).ru = x.ru) := ou_ru x p
    obtain ⟨r0, r1, r2, r3, r4, r5⟩ := P2.out.b
    rw [hc]
    clear hc
    simp only [terr]
    go_wp2_with fail
    clear r0 r1 r2 r3 r4 r5
    refine (outward_nd HS.out N2.out HW.out.2.2 HW.out.1 HW.out.2.1 HR.out p HP.out HPP.out).mono ?_
    rintro e w3 ⟨rfl, n3, k3⟩
    obtain ⟨c, hcc⟩ : ∃ c, x.ouF p = c := ⟨_, rfl⟩
    have HC : Hid (x.ouF p = c) := hcc
    rw [hcc]
    clear hcc
    have n4 := n3.below (aB w3 (.cells #[.int .i64 c.pr, .int .i64 c.ia, .int .i64 c.ip, .int .i64 c.fa, .int .i64 c.fp, .int .i64 c.po, .int .i64 c.st, .int .i64 c.un] 77))
    have N4 : Hid (Nd w0 (w3.alloc (.cells #[.int .i64 c.pr, .int .i64 c.ia, .int .i64 c.ip, .int .i64 c.fa, .int .i64 c.fp, .int .i64 c.po, .int .i64 c.st, .int .i64 c.un] 77)) k (x.ou p) (m + 1) n) := n4
    have X4 : Hid (ChgL k.all w (w3.alloc (.cells #[.int .i64 c.pr, .int .i64 c.ia, .int .i64 c.ip, .int .i64 c.fa, .int .i64 c.fp, .int .i64 c.po, .int .i64 c.st, .int .i64 c.un] 77))) := ((ChgL.of B2.out).trans k3).then (aB _ _)
    have P4 : Hid (PkZ (w3.alloc (.cells #[.int .i64 c.pr, .int .i64 c.ia, .int .i64 c.ip, .int .i64 c.fa, .int .i64 c.fp, .int .i64 c.po, .int .i64 c.st, .int .i64 c.un] 77)) P p) := (P2.out.chgL k3 HNP.out).below (aB _ _)
    have Z4 : Hid (PkZ (w3.alloc (.cells #[.int .i64 c.pr, .int .i64 c.ia, .int .i64 c.ip, .int .i64 c.fa, .int .i64 c.fp, .int .i64 c.po, .int .i64 c.st, .int .i64 c.un] 77)) Q noP) := (Z2.out.chgL k3 HNQ.out).below (aB _ _)
    have F4 : Hid (FlZ (w3.alloc (.cells #[.int .i64 c.pr, .int .i64 c.ia, .int .i64 c.ip, .int .i64 c.fa, .int .i64 c.fp, .int .i64 c.po, .int .i64 c.st, .int .i64 c.un] 77)) w3.heap.size c) := FlZ.new w3 c
    simp only [flowV]
    clear n3 n4 k3
    by_cases he : x.ouE p = 0
    · have HIE : Hid (x.inE p = 0) := by show _ = _; rw [HE.out, he]
      have HIP : Hid (x.inP p = ⟨p.pr, 1, c.po, p.a2, p.p2, p.fl⟩) := by show _ = _; unfold No.inP; rw [if_pos HIE.out, HC.out]
      rw [he]
      clear he
      simp only [terr]
      go_upto_region 7 with fail
      generalize w3.alloc (.cells #[.int .i64 c.pr, .int .i64 c.ia, .int .i64 c.ip, .int .i64 c.fa, .int .i64 c.fp, .int .i64 c.po, .int .i64 c.st, .int .i64 c.un] 77) = w4 at *
      generalize w3.heap.size = G at *
      have g5 := F4.out.b.c5
      obtain ⟨r0, r1, r2, r3, r4, r5⟩ := P4.out.b
      have pf := P4.out.fr
      have hcg := set_chg2 w4 P 1 2 (.int .i64 1) (.int .i64 c.po)
      have Z5 : Hid (PkZ ((w4.setCell ⟨P, 1, none⟩ (.int .i64 1)).setCell ⟨P, 2, none⟩ (.int .i64 c.po)) Q noP) := Z4.out.chgL (ChgL.one (l := [P]) hcg (by simp)) (by simp; omega)
      obtain ⟨n5, k5⟩ := HN.out.fresh N4.out HRU.out X4.out hcg (by omega)
      obtain ⟨w9, hst, hz9, hc9⟩ := pkz_store Z5.out ⟨p.pr, 1, c.po, p.a2, p.p2, p.fl⟩
      simp only at hst
      obtain ⟨n9, k9⟩ := HN.out.fresh n5 HRU.out k5 hc9 (by omega)
      have N9 : Hid (Nd w0 w9 k (x.ou p) (m + 1) n) := n9
      have K9 : Hid (ChgL k.all w w9) := k9
      have Z9 : Hid (PkZ w9 Q ⟨p.pr, 1, c.po, p.a2, p.p2, p.fl⟩) := hz9
      clear n9 k9 hz9 hc9 n5 k5 hcg
      go_wp2_with (refine wpList_store_eq rfl 41 _ _ rfl _ _ _ rfl rfl hst ?_)
      clear hst g5 r0 r1 r2 r3 r4 r5 pf
      have q := Z9.out.b
      go_wp2_with fail
      exact bodyPost_ret (v := .tuple #[Pk.v ⟨p.pr, 1, c.po, p.a2, p.p2, p.fl⟩, .nilIface]) (by simp [results, Tryd.results9, go_sem, q.c0, q.c1, q.c2, q.c3, q.c4, q.c5, Pk.v]) rfl ⟨by rw [HIP.out, HIE.out]; rfl, by rw [HX.out]; exact N9.out, K9.out⟩
    · obtain ⟨e1, he1⟩ : ∃ e1, x.ouE p = e1 + 1 := ⟨x.ouE p - 1, by omega⟩
      have HIE : Hid (x.inE p = e1 + 1) := by show _ = _; rw [HE.out, he1]
      have HIP : Hid (x.inP p = noP) := by show _ = _; unfold No.inP; rw [if_neg (by rw [HIE.out]; omega)]
      rw [he1]
      clear he he1
      simp only [terr]
      generalize hw4 : w3.alloc (.cells #[.int .i64 c.pr, .int .i64 c.ia, .int .i64 c.ip, .int .i64 c.fa, .int .i64 c.fp, .int .i64 c.po, .int .i64 c.st, .int .i64 c.un] 77) = w4 at N4 X4 P4 Z4 F4
      obtain ⟨w9, hst0, hz9, hc9⟩ := pkz_store Z4.out noP
      have hst : (Instr.storeAt 41 (.pointer (some ⟨Q, 0, none⟩)) (.agg #[.int .i64 0, .int .i64 0, .int .i64 0, .int .i64 0, .int .i64 0, .int .i64 0])).run Tryd.prog w4 = .ok () w9 := hst0
      obtain ⟨n9, k9⟩ := HN.out.fresh N4.out HRU.out X4.out hc9 (by omega)
      have N9 : Hid (Nd w0 w9 k (x.ou p) (m + 1) n) := n9
      have K9 : Hid (ChgL k.all w w9) := k9
      have Z9 : Hid (PkZ w9 Q noP) := hz9
      clear n9 k9 hz9 hc9 hst0
      subst hw4
      go_wp2_with (refine wpList_store_eq rfl 41 _ _ rfl _ _ _ rfl rfl hst ?_)
      clear hst
      have q := Z9.out.b
      go_wp2_with fail
      exact bodyPost_ret (v := .tuple #[Pk.v noP, .iface 161 (.pointer (some (s e1)))]) (by simp [results, Tryd.results9, go_sem, q.c0, q.c1, q.c2, q.c3, q.c4, q.c5, Pk.v]) rfl ⟨by rw [HIP.out, HIE.out]; rfl, by rw [HX.out]; exact N9.out, K9.out⟩
  · obtain ⟨e1, he1⟩ : ∃ e1, x.chk p = e1 + 1 := ⟨x.chk p - 1, by omega⟩
    have HIE : Hid (x.inE p = e1 + 1) := by show _ = _; unfold No.inE; rw [if_neg hc, he1]
    have HIP : Hid (x.inP p = noP) := by show _ = _; unfold No.inP; rw [if_neg (by rw [HIE.out]; omega)]
    have HX : Hid (x.ins p = x) := by show _ = _; unfold No.ins; rw [if_neg hc]
    have HRU : Hid (x.ru = x.ru) := rfl
    rw [he1]
    clear hc he1
    simp only [terr]
    obtain ⟨w9, hst0, hz9, hc9⟩ := pkz_store Z2.out noP
    have hst : (Instr.storeAt 41 (.pointer (some ⟨Q, 0, none⟩)) (.agg #[.int .i64 0, .int .i64 0, .int .i64 0, .int .i64 0, .int .i64 0, .int .i64 0])).run Tryd.prog w2 = .ok () w9 := hst0
    obtain ⟨n9, k9⟩ := HN.out.fresh N2.out HRU.out (ChgL.of B2.out) hc9 (by omega)
    have N9 : Hid (Nd w0 w9 k x m n) := n9
    have K9 : Hid (ChgL k.all w w9) := k9
    have Z9 : Hid (PkZ w9 Q noP) := hz9
    clear n9 k9 hz9 hc9 hst0
    go_wp2_with (refine wpList_store_eq rfl 41 _ _ rfl _ _ _ rfl rfl hst ?_)
    clear hst
    have q := Z9.out.b
    go_wp2_with fail
    exact bodyPost_ret (v := .tuple #[Pk.v noP, .iface 161 (.pointer (some (s e1)))]) (by simp [results, Tryd.results9, go_sem, q.c0, q.c1, q.c2, q.c3, q.c4, q.c5, Pk.v]) rfl ⟨by rw [HIP.out, HIE.out]; rfl, by rw [HX.out]; exact N9.out.more (by omega), K9.out⟩
end Go.Proofs.YtjhajhbelnlcoaaDoor
