/-
  Package node's Hear.
-/
import Derived.Test.YtenonidmgpmohaaGreatDoorNoG
import Derived.Test.YtenonidmgpmohaaGreatDoorKa
import Derived.Test.YtenonidmgpmohaaGreatDoorKf
import Derived.BigQuiet
namespace Go.Proofs.YtenonidmgpmohaaGreatDoor
open Go.RowKit

/-- a note on its way: its cells are told ones. -/
structure Nf where
  fr : Int
  li : Int
  ep : Int
  cl : Bool
  cs : List Tc
/-- what is told fits 64 bits. -/
def OkT (l : List Tc) : Prop := ∀ x ∈ l, In6 x.c.pr ∧ In6 x.c.st
theorem WfT.take {T : Tb} (h : WfT T) {x : Tc} (hx : In6 x.c.pr ∧ In6 x.c.st) : WfT (takeT T x) := by
  unfold takeT
  split
  · exact h.upd _ _ hx.1 hx.2
  · exact h
theorem WfT.takes : ∀ (l : List Tc) {T : Tb}, WfT T → OkT l → WfT (takeL T l)
  | [], _, h, _ => h
  | x :: l, _, h, hl => WfT.takes l (h.take (hl x (by simp))) (fun y hy => hl y (by simp [hy]))
theorem WfT.tell {T : Tb} (h : WfT T) (old life : Int) {l : List Tc} (hl : OkT l) : WfT (tellT old life T l) := by
  unfold tellT
  split
  · split
    · exact WfT.takes l WfT.new hl
    · exact WfT.takes l h hl
  · exact h
/-- what a node makes of a note. -/
def No.heE (x : No) (t : Nf) : Nat := if t.fr = 1 - x.id ∧ 0 ≤ t.ep ∧ t.ep ≤ 1073741824 then (if t.cl then 3 else tellE x.ml t.li t.cs) else 2
def No.hrd (x : No) (t : Nf) : No := if x.heE t = 0 then { x with ml := tellLife x.ml t.li t.cs, mt := tellT x.ml t.li x.mt t.cs, ro := x.ro.hear t.ep } else x
theorem SeM.s2 {w : World} {s : Nat → Addr} (S : SeM w s) : Se2 w s := ⟨S.c1, S.c9⟩
theorem mtell_nd {w0 w : World} {k : Bk} {x : No} {m n : Nat} {s : Nat → Addr} (S : SeM w0 s) (h : Nd w0 w k x m n) (li : Int) (l : List Tc) (p : Option Addr) (cap : Nat) (R : TcR w p l) (hp : ∀ g o, p = some ⟨g, o, none⟩ → g ≠ k.mi) (hl : l.length ≤ 100000) (ho : OkT l) :
    Calls Tryz.prog 77 #[.pointer (some ⟨k.mi, 0, none⟩), .int .i64 li, .slice p l.length cap] w fun e w' => e = .returned (terr s (tellE x.ml li l)) ∧ Nd w0 w' k { x with ml := tellLife x.ml li l, mt := tellT x.ml li x.mt l } m n ∧ ChgL k.all w w' := by
  refine (tell_any k.mi li x.ml x.mt l p cap s w (S.below h.bl).s2 h.mi R hp hl).mono ?_
  rintro e w' ⟨rfl, t, c⟩
  exact ⟨rfl, h.onMi t (h.wm.tell _ _ ho) c, ChgL.one c k.m_mi⟩
theorem rhear_nd {w0 w : World} {k : Bk} {x : No} {m n : Nat} (h : Nd w0 w k x m n) (e : Int) :
    Calls Tryz.prog 78 #[.pointer (some ⟨k.ro, 0, none⟩), .int .i64 e] w fun r w' => (∃ v, r = .returned v) ∧ Nd w0 w' k { x with ro := x.ro.hear e } m n ∧ ChgL k.all w w' := by
  refine (hear_any k.ro x.ro e w h.ro).mono ?_
  rintro r w' ⟨rfl, t, c⟩
  exact ⟨⟨_, rfl⟩, h.onRo t (h.rk.hear _) c, ChgL.one c k.m_ro⟩
/-- a note's own block. -/
def NfZ (w : World) (Q : Nat) (t : Nf) (cv : Value) : Prop := w.heap[Q]? = some (.cells #[.int .i64 t.fr, .int .i64 t.li, .int .i64 t.ep, .bool t.cl, cv] 78 (0, 0))
theorem NfZ.lt {w : World} {Q : Nat} {t : Nf} {cv : Value} (h : NfZ w Q t cv) : Q < w.heap.size := by
  rcases Nat.lt_or_ge Q w.heap.size with a | a
  · exact a
  · unfold NfZ at h; rw [Array.getElem?_eq_none a] at h; cases h
theorem NfZ.below {w w' : World} {Q : Nat} {t : Nf} {cv : Value} (h : NfZ w Q t cv) (hb : Below w.heap.size w w') : NfZ w' Q t cv := by unfold NfZ; rw [hb.block Q h.lt]; exact h
theorem NfZ.chgL {w w' : World} {Q : Nat} {t : Nf} {cv : Value} {l : List Nat} (h : NfZ w Q t cv) (hb : ChgL l w w') (hn : ¬ Q ∈ l) : NfZ w' Q t cv := by unfold NfZ; rw [hb.block Q h.lt hn]; exact h
theorem NfZ.c {w : World} {Q : Nat} {t : Nf} {cv : Value} (h : NfZ w Q t cv) (i : Nat) : w.cell? ⟨Q, i, none⟩ = (#[.int .i64 t.fr, .int .i64 t.li, .int .i64 t.ep, .bool t.cl, cv] : Array Value)[i]? := cell_of_row w _ _ _ _ _ h
theorem NfZ.new (w : World) (t : Nf) (cv : Value) : NfZ (w.alloc (.cells #[.int .i64 t.fr, .int .i64 t.li, .int .i64 t.ep, .bool t.cl, cv] 78)) w.heap.size t cv := heap_alloc_new w _
/-- its five cells. -/
structure NfB (w : World) (Q : Nat) (t : Nf) (cv : Value) : Prop where
  c0 : w.cell? ⟨Q, 0, none⟩ = some (.int .i64 t.fr)
  c1 : w.cell? ⟨Q, 1, none⟩ = some (.int .i64 t.li)
  c2 : w.cell? ⟨Q, 2, none⟩ = some (.int .i64 t.ep)
  c3 : w.cell? ⟨Q, 3, none⟩ = some (.bool t.cl)
  c4 : w.cell? ⟨Q, 4, none⟩ = some cv
theorem NfZ.b {w : World} {Q : Nat} {t : Nf} {cv : Value} (h : NfZ w Q t cv) : NfB w Q t cv := ⟨h.c 0, h.c 1, h.c 2, h.c 3, h.c 4⟩
set_option maxRecDepth 100000 in
set_option maxHeartbeats 4000000 in
theorem hear_nd {w0 w : World} {k : Bk} {x : No} {m n : Nat} {s : Nat → Addr} (S : SeM w0 s) (h : Nd w0 w k x m n) (t : Nf) (p : Option Addr) (cap : Nat) (R : TcR w p t.cs) (hp : ∀ g o, p = some ⟨g, o, none⟩ → g ≠ k.mi) (hl : t.cs.length ≤ 100000) (ho : OkT t.cs) :
    Calls Tryz.prog 59 #[.pointer (some ⟨k.nd, 0, none⟩), .agg #[.int .i64 t.fr, .int .i64 t.li, .int .i64 t.ep, .bool t.cl, .slice p t.cs.length cap]] w fun e w' => e = .returned (terr s (x.heE t)) ∧ Nd w0 w' k (x.hrd t) m n ∧ ChgL k.all w w' := by
  have HS : Hid (SeM w0 s) := S
  have HN : Hid (Nd w0 w k x m n) := h
  have HR : Hid (TcR w p t.cs) := R
  have HP : Hid ((∀ g o, p = some ⟨g, o, none⟩ → g ≠ k.mi) ∧ t.cs.length ≤ 100000 ∧ OkT t.cs) := ⟨hp, hl, ho⟩
  have hid := h.id
  have hw : IntKind.i64.wrap (1 - x.id) = 1 - x.id := by rw [IntKind.wrap_i64]; omega
  clear S h R hp hl ho hid
  go_enter Tryz.func59, Tryz.ntmps59
  go_upto_region 1 with fail
  have B1 : Hid (Below w.heap.size w (w.alloc (.cells #[.int .i64 t.fr, .int .i64 t.li, .int .i64 t.ep, .bool t.cl, .slice p t.cs.length cap] 78))) := aB _ _
  have Z1 : Hid (NfZ (w.alloc (.cells #[.int .i64 t.fr, .int .i64 t.li, .int .i64 t.ep, .bool t.cl, .slice p t.cs.length cap] 78)) w.heap.size t (.slice p t.cs.length cap)) := NfZ.new w t _
  generalize w.alloc (.cells #[.int .i64 t.fr, .int .i64 t.li, .int .i64 t.ep, .bool t.cl, .slice p t.cs.length cap] 78) = w1 at *
  have LQ : Hid (w.heap.size ≤ w.heap.size) := Nat.le_refl _
  generalize hQe : w.heap.size = Q at Z1 LQ ⊢
  have HNQ : Hid (¬ Q ∈ k.all) := fun hm => by have := HN.out.lt _ hm; omega
  have N1 : Hid (Nd w0 w1 k x m n) := HN.out.below B1.out
  have S1 : Hid (SeM w1 s) := HS.out.below N1.out.bl
  clear hQe LQ
  obtain ⟨z0, z1, z2, z3, z4⟩ := Z1.out.b
  have n1 := N1.out.c1
  by_cases h0 : t.fr = 1 - x.id ∧ 0 ≤ t.ep ∧ t.ep ≤ 1073741824
  · obtain ⟨e0, e1, e2⟩ := h0
    have HB : Hid (t.fr = 1 - x.id ∧ 0 ≤ t.ep ∧ t.ep ≤ 1073741824) := ⟨e0, e1, e2⟩
    have b0 : (t.fr != 1 - x.id) = false := by rw [e0]; simp
    have b1 : ¬ t.ep < 0 := by omega
    have b2 : ¬ 1073741824 < t.ep := by omega
    clear e0 e1 e2
    go_quiet (fail)
    have D2 : Hid (Below w1.heap.size w1 (w1.drewN nq)) := ⟨rfl, rfl, rfl, Nat.le_refl _, fun _ _ => rfl⟩
    generalize w1.drewN nq = w2 at *
    have B2 : Hid (Below w.heap.size w w2) := t2 B1.out D2.out
    have Z2 : Hid (NfZ w2 Q t (.slice p t.cs.length cap)) := Z1.out.below D2.out
    have N2 : Hid (Nd w0 w2 k x m n) := HN.out.below B2.out
    have S2 : Hid (SeM w2 s) := HS.out.below N2.out.bl
    have R2 : Hid (TcR w2 p t.cs) := HR.out.below B2.out
    clear z0 z1 z2 z3 z4 n1 D2 B1 Z1 N1 S1 b0 b1 b2 hw
    obtain ⟨z0, z1, z2, z3, z4⟩ := Z2.out.b
    cases hcl : t.cl
    · have HE : Hid (x.heE t = tellE x.ml t.li t.cs) := by show _ = _; unfold No.heE; rw [if_pos HB.out, hcl]; rfl
      rw [hcl] at z3
      clear hcl
      have n7 := N2.out.c7
      go_upto_region 5 with fail
      go_wp2_with fail
      have HTL : Hid (∀ u, Below w2.heap.size w2 u → Calls Tryz.prog 77 #[.pointer (some ⟨k.mi, 0, none⟩), .int .i64 t.li, .slice p t.cs.length cap] u fun e w' => e = .returned (terr s (tellE x.ml t.li t.cs)) ∧ Nd w0 w' k { x with ml := tellLife x.ml t.li t.cs, mt := tellT x.ml t.li x.mt t.cs } m n ∧ ChgL k.all u w') := fun u hu => mtell_nd HS.out (N2.out.below hu) t.li t.cs p cap (R2.out.below hu) HP.out.1 HP.out.2.1 HP.out.2.2
      have hS : w2.drew.cell? ⟨k.nd, 7, none⟩ = some (.pointer (some ⟨k.mi, 0, none⟩)) ∧ w2.drew.cell? ⟨Q, 1, none⟩ = some (.int .i64 t.li) ∧ w2.drew.cell? ⟨Q, 4, none⟩ = some (.slice p t.cs.length cap) := ⟨n7, z1, z4⟩
      clear z0 z1 z2 z3 z4 n7
      go_region_held3 (fun w' => w'.cell? ⟨k.nd, 7, none⟩ = some (.pointer (some ⟨k.mi, 0, none⟩)) ∧ w'.cell? ⟨Q, 1, none⟩ = some (.int .i64 t.li) ∧ w'.cell? ⟨Q, 4, none⟩ = some (.slice p t.cs.length cap))
        (first | assumption | exact ⟨N3.out.c7, K3.out.keeps HNQ.out hS.2.1, K3.out.keeps HNQ.out hS.2.2⟩)
        (first | (go_at_call 77; refine (HTL.out _ (Below.refl _ _).drew).mono ?_; rintro e w3 ⟨rfl, n3, k3⟩; have N3 : Hid (Nd w0 w3 k { x with ml := tellLife x.ml t.li t.cs, mt := tellT x.ml t.li x.mt t.cs } m n) := n3; have K3 : Hid (ChgL k.all w2.drew w3) := k3; clear n3 k3))
      have Z3 : Hid (NfZ w3 Q t (.slice p t.cs.length cap)) := (Z2.out.below (Below.refl _ _).drew).chgL K3.out HNQ.out
      have X3 : Hid (ChgL k.all w w3) := (ChgL.of (t2 B2.out (Below.refl _ _).drew)).trans K3.out
      clear hS K3 Z2 N2 S2 B2 R2 HTL
      by_cases hz : tellE x.ml t.li t.cs = 0
      · have HE0 : Hid (x.heE t = 0) := by show _ = _; rw [HE.out, hz]
        have HX : Hid (x.hrd t = { x with ml := tellLife x.ml t.li t.cs, mt := tellT x.ml t.li x.mt t.cs, ro := x.ro.hear t.ep }) := by show _ = _; unfold No.hrd; rw [if_pos HE0.out]
        rw [hz]
        clear hz
        simp only [terr]
        go_upto_region 8 with fail
        go_wp2_with fail
        have HRH : Hid (∀ u, Below w3.heap.size w3 u → Calls Tryz.prog 78 #[.pointer (some ⟨k.ro, 0, none⟩), .int .i64 t.ep] u fun r w' => (∃ v, r = .returned v) ∧ Nd w0 w' k { x with ml := tellLife x.ml t.li t.cs, mt := tellT x.ml t.li x.mt t.cs, ro := x.ro.hear t.ep } m n ∧ ChgL k.all u w') := fun u hu => rhear_nd (N3.out.below hu) t.ep
        have hS : w3.drew.cell? ⟨k.nd, 0, none⟩ = some (.pointer (some ⟨k.ro, 0, none⟩)) ∧ w3.drew.cell? ⟨Q, 2, none⟩ = some (.int .i64 t.ep) := ⟨N3.out.c0, Z3.out.b.c2⟩
        go_region_held3 (fun w' => w'.cell? ⟨k.nd, 0, none⟩ = some (.pointer (some ⟨k.ro, 0, none⟩)) ∧ w'.cell? ⟨Q, 2, none⟩ = some (.int .i64 t.ep))
          (first | assumption | exact ⟨N4.out.c0, K4.out.keeps HNQ.out hS.2⟩)
          (first | (go_at_call 78; refine (HRH.out _ (Below.refl _ _).drew).mono ?_; rintro e w4 ⟨⟨v4, rfl⟩, n4, k4⟩; have N4 : Hid (Nd w0 w4 k { x with ml := tellLife x.ml t.li t.cs, mt := tellT x.ml t.li x.mt t.cs, ro := x.ro.hear t.ep } m n) := n4; have K4 : Hid (ChgL k.all w3.drew w4) := k4; clear n4 k4))
        have X4 : Hid (ChgL k.all w w4) := (X3.out.trans (ChgL.of (Below.refl _ _).drew)).trans K4.out
        clear hS K4 X3 HRH
        go_wp2_with fail
        go_ret
        exact ⟨by rw [HE0.out]; rfl, by rw [HX.out]; exact N4.out, X4.out⟩
      · obtain ⟨e1, he1⟩ : ∃ e1, tellE x.ml t.li t.cs = e1 + 1 := ⟨tellE x.ml t.li t.cs - 1, by omega⟩
        have HX : Hid (x.hrd t = { x with ml := tellLife x.ml t.li t.cs, mt := tellT x.ml t.li x.mt t.cs }) := by
          show _ = _
          unfold No.hrd tellLife tellT
          rw [if_neg (by rw [HE.out]; exact hz), if_neg hz, if_neg hz]
        rw [he1] at HE ⊢
        clear hz he1
        simp only [terr]
        go_wp2_with fail
        go_ret
        exact ⟨by rw [HE.out]; rfl, by rw [HX.out]; exact N3.out, X3.out⟩
    · have HE : Hid (x.heE t = 3) := by show _ = _; unfold No.heE; rw [if_pos HB.out, hcl]; rfl
      have HX : Hid (x.hrd t = x) := by show _ = _; unfold No.hrd; rw [if_neg (by rw [HE.out]; decide)]
      rw [hcl] at z3
      clear hcl
      have s2 := S2.out.c2
      go_wp2_with fail
      go_ret
      exact ⟨by rw [HE.out]; rfl, by rw [HX.out]; exact N2.out, ChgL.of B2.out⟩
  · have HE : Hid (x.heE t = 2) := by show _ = _; unfold No.heE; rw [if_neg h0]
    have HX : Hid (x.hrd t = x) := by show _ = _; unfold No.hrd; rw [if_neg (by rw [HE.out]; decide)]
    have s1 := S1.out.c1
    have F1 : Hid (∀ q, Nd w0 (w1.drewN q) k x m n ∧ ChgL k.all w (w1.drewN q)) := fun q => ⟨N1.out.below ⟨rfl, rfl, rfl, Nat.le_refl _, fun _ _ => rfl⟩, ChgL.of (t2 B1.out ⟨rfl, rfl, rfl, Nat.le_refl _, fun _ _ => rfl⟩)⟩
    by_cases e0 : t.fr = 1 - x.id
    · have b0 : (t.fr != 1 - x.id) = false := by rw [e0]; simp
      have HQ : Hid (t.ep < 0 ∨ 1073741824 < t.ep) := (by omega : t.ep < 0 ∨ 1073741824 < t.ep)
      clear e0 h0
      by_cases b1 : t.ep < 0
      · go_quiet (fail)
        go_wp2_with fail
        go_ret
        exact ⟨by rw [HE.out]; rfl, by rw [HX.out]; exact (F1.out _).1, (F1.out _).2⟩
      · have b2 : 1073741824 < t.ep := by have := HQ.out; omega
        go_quiet (fail)
        go_wp2_with fail
        go_ret
        exact ⟨by rw [HE.out]; rfl, by rw [HX.out]; exact (F1.out _).1, (F1.out _).2⟩
    · have b0 : (t.fr != 1 - x.id) = true := by simp [e0]
      clear e0 h0
      go_quiet (fail)
      go_wp2_with fail
      go_ret
      exact ⟨by rw [HE.out]; rfl, by rw [HX.out]; exact (F1.out _).1, (F1.out _).2⟩
end Go.Proofs.YtenonidmgpmohaaGreatDoor
