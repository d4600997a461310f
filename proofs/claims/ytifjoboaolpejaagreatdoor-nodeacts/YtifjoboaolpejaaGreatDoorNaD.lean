/-
  The law's act of a node, and of its model.
-/
import Derived.Test.YtifjoboaolpejaaGreatDoorLg
import Derived.Test.YtifjoboaolpejaaGreatDoorLi
import Derived.Deep.DeepCutAuto
import Derived.Deep.CutRange
namespace Go.Proofs.YtifjoboaolpejaaGreatDoor
open Go.RowKit

/-- both nodes are the same, behind so many steps. -/
def NS (w0 w : World) (kn ky rn ry j : Nat) : Prop := ∃ k r x j1 i1, NB w0 w k r x j1 x i1 ∧ j1 ≤ j ∧ i1 ≤ j ∧ k.nd = kn ∧ k.yb = ky ∧ r.nd = rn ∧ r.yb = ry
theorem Sents.mm {w : World} {s : Nat → Addr} (S : Sents w s) : SeM w s := ⟨S.c1, S.c2, S.c3, S.c4, S.c5, S.c6, S.c7, S.c8, S.c9, S.c10⟩
theorem err_le (p : Pk) : p.err ≤ 3 := by
  unfold Pk.err pkErr
  repeat' split
  all_goals omega
theorem chk_le (x : No) (p : Pk) : x.chk p ≤ 11 := by
  have := err_le p
  unfold No.chk
  repeat' split
  all_goals omega
theorem addE_le (T : Tb) (low pr ia ip fa fp st un : Int) : (addT T low pr ia ip fa fp st un).2.1 ≤ 11 := by
  unfold addT
  repeat' split
  all_goals simp
theorem bgnE_le (pr fl : Int) : bgnE pr fl ≤ 11 := by
  unfold bgnE
  repeat' split
  all_goals omega
theorem inE_le (x : No) (p : Pk) : x.inE p ≤ 11 := by
  have h1 := chk_le x p
  have h2 := bgnE_le p.pr p.fl
  have h3 : (x.addR p).2.1 ≤ 11 := addE_le _ _ _ _ _ _ _ _ _
  unfold No.inE No.ouE No.bgE
  repeat' split
  all_goals omega
theorem otE_le (x : No) (p : Pk) : x.otE p ≤ 11 := by
  have h1 := chk_le x p
  unfold No.otE
  repeat' split
  all_goals omega
theorem heE_le (x : No) (t : Nf) : x.heE t ≤ 11 := by
  unfold No.heE tellE
  repeat' split
  all_goals omega
theorem cutE_le (y : By) (n : Int) : cutE y n ≤ 11 := by
  unfold cutE
  repeat' split
  all_goals omega
theorem putE_le (off : Bool) (y : By) (e l : Int) : (putE off y e l).1 ≤ 11 := by
  unfold putE
  repeat' split
  all_goals simp
theorem tkE_le (x : No) : x.tkE ≤ 11 := by
  unfold No.tkE No.clE No.cp
  repeat' split
  all_goals first | exact putE_le _ _ _ _ | omega
theorem RowsB.ltZ {w : World} {Z : Nat} {T : Tb} {L : List Nat} (h : RowsB w Z T L) : Z < w.heap.size := by
  obtain ⟨cs, h1, _⟩ := h
  rcases Nat.lt_or_ge Z w.heap.size with a | a
  · exact a
  · rw [Array.getElem?_eq_none a] at h1; cases h1
theorem CelV.chgL {w w' : World} {base : Nat} {T : Tb} {L : List Nat} {v : Value} {l : List Nat} (h : CelV w base T L v) (c : ChgL l w w') (hl : ∀ b ∈ l, b < base) : CelV w' base T L v := by
  rcases h with q | ⟨Z, h1, h2, h3, h4⟩
  · exact Or.inl q
  · exact Or.inr ⟨Z, h1, h2, h3.kept (c.block Z h3.ltZ (fun hm => by have := hl Z hm; omega)), h4⟩
theorem NtsV.chgL {w w' : World} {base : Nat} {x : No} {L : List Nt} {v : Value} {l : List Nat} (h : NtsV w base x L v) (c : ChgL l w w') (hl : ∀ b ∈ l, b < base) : NtsV w' base x L v := by
  obtain ⟨p, cap, e, h1, hc⟩ := h
  refine ⟨p, cap, e, h1, fun i t ht => ?_⟩
  obtain ⟨g, cv, e2, hb, hv, hx⟩ := hc i t ht
  exact ⟨g, cv, e2, hb, hv.chgL c hl, fun j u hu => c.keeps (fun hm => by have := hl _ hm; simp only at this; omega) (hx j u hu)⟩
theorem nfs_len (x : No) : x.nfs.length ≤ 200 := by
  unfold No.nfs No.tickL No.notes
  rw [List.length_map]
  repeat' split
  all_goals simp
theorem RdT.toB {w w' : World} {p : Option Addr} {l : List Nf} {cvs : List Value} (h : RdT w p l cvs) (hb : Below w.heap.size w w') : RdT w' p l cvs := h.below hb
set_option maxRecDepth 100000 in
set_option maxHeartbeats 8000000 in
theorem act_any {w0 w : World} {k : Bk} {r : RBk} {x : No} {j : Nat} {s : Nat → Addr} (S : Sents w0 s) (h : NB w0 w k r x j x j) (hj : j ≤ 90000) (a : Ac) (ok : AcOk w0 a) (ft : a.Fit) :
    Calls Tryz.prog 14 #[.pointer (some ⟨k.nd, 0, none⟩), .pointer (some ⟨r.nd, 0, none⟩), .pointer (some ⟨k.yb, 0, none⟩), .pointer (some ⟨r.yb, 0, none⟩), .agg #[.string a.kd, .int .i64 a.n, .int .i64 a.p.pr, .int .i64 a.p.a1, .int .i64 a.p.p1, .int .i64 a.p.a2, .int .i64 a.p.p2, .int .i64 a.p.fl, .int .i64 a.x.fr, .int .i64 a.x.li, .int .i64 a.x.ep, .bool a.x.cl, a.xv, a.rv]] w fun e w' => e = .returned (.bool true) ∧ NS w0 w' k.nd k.yb r.nd r.yb (j + 1000) := by
  have HS : Hid (Sents w0 s) := S
  have HW : Hid (NB w0 w k r x j x j) := h
  have HJ : Hid (j ≤ 90000) := hj
  have HK : Hid (AcOk w0 a ∧ a.Fit) := ⟨ok, ft⟩
  obtain ⟨rp, rc, hrv, hru⟩ := ok.ru.open
  obtain ⟨xp, xc, hxv, hxr⟩ := ok.cs.open
  have HRU : Hid (Rul w0 rp a.ru ∧ TcR w0 xp a.x.cs) := ⟨hru, hxr⟩
  have HRV : Hid (a.rv = .slice rp a.ru.length rc) := hrv
  have HXV : Hid (a.xv = .slice xp a.x.cs.length xc) := hxv
  rw [hrv, hxv]
  clear S h hj ok ft hru hxr hrv hxv
  go_enter Tryz.func14, Tryz.ntmps14
  go_upto_region 1 with fail
  have c0 : (w.alloc (.cells #[.string a.kd, .int .i64 a.n, .int .i64 a.p.pr, .int .i64 a.p.a1, .int .i64 a.p.p1, .int .i64 a.p.a2, .int .i64 a.p.p2, .int .i64 a.p.fl, .int .i64 a.x.fr, .int .i64 a.x.li, .int .i64 a.x.ep, .bool a.x.cl, .slice xp a.x.cs.length xc, .slice rp a.ru.length rc] 55)).cell? ⟨w.heap.size, 0, none⟩ = some (.string a.kd) := (nw _ _ _ _).trans rfl
  have c1 : (w.alloc (.cells #[.string a.kd, .int .i64 a.n, .int .i64 a.p.pr, .int .i64 a.p.a1, .int .i64 a.p.p1, .int .i64 a.p.a2, .int .i64 a.p.p2, .int .i64 a.p.fl, .int .i64 a.x.fr, .int .i64 a.x.li, .int .i64 a.x.ep, .bool a.x.cl, .slice xp a.x.cs.length xc, .slice rp a.ru.length rc] 55)).cell? ⟨w.heap.size, 1, none⟩ = some (.int .i64 a.n) := (nw _ _ _ _).trans rfl
  have c2 : (w.alloc (.cells #[.string a.kd, .int .i64 a.n, .int .i64 a.p.pr, .int .i64 a.p.a1, .int .i64 a.p.p1, .int .i64 a.p.a2, .int .i64 a.p.p2, .int .i64 a.p.fl, .int .i64 a.x.fr, .int .i64 a.x.li, .int .i64 a.x.ep, .bool a.x.cl, .slice xp a.x.cs.length xc, .slice rp a.ru.length rc] 55)).cell? ⟨w.heap.size, 2, none⟩ = some (.int .i64 a.p.pr) := (nw _ _ _ _).trans rfl
  have c3 : (w.alloc (.cells #[.string a.kd, .int .i64 a.n, .int .i64 a.p.pr, .int .i64 a.p.a1, .int .i64 a.p.p1, .int .i64 a.p.a2, .int .i64 a.p.p2, .int .i64 a.p.fl, .int .i64 a.x.fr, .int .i64 a.x.li, .int .i64 a.x.ep, .bool a.x.cl, .slice xp a.x.cs.length xc, .slice rp a.ru.length rc] 55)).cell? ⟨w.heap.size, 3, none⟩ = some (.int .i64 a.p.a1) := (nw _ _ _ _).trans rfl
  have c4 : (w.alloc (.cells #[.string a.kd, .int .i64 a.n, .int .i64 a.p.pr, .int .i64 a.p.a1, .int .i64 a.p.p1, .int .i64 a.p.a2, .int .i64 a.p.p2, .int .i64 a.p.fl, .int .i64 a.x.fr, .int .i64 a.x.li, .int .i64 a.x.ep, .bool a.x.cl, .slice xp a.x.cs.length xc, .slice rp a.ru.length rc] 55)).cell? ⟨w.heap.size, 4, none⟩ = some (.int .i64 a.p.p1) := (nw _ _ _ _).trans rfl
  have c5 : (w.alloc (.cells #[.string a.kd, .int .i64 a.n, .int .i64 a.p.pr, .int .i64 a.p.a1, .int .i64 a.p.p1, .int .i64 a.p.a2, .int .i64 a.p.p2, .int .i64 a.p.fl, .int .i64 a.x.fr, .int .i64 a.x.li, .int .i64 a.x.ep, .bool a.x.cl, .slice xp a.x.cs.length xc, .slice rp a.ru.length rc] 55)).cell? ⟨w.heap.size, 5, none⟩ = some (.int .i64 a.p.a2) := (nw _ _ _ _).trans rfl
  have c6 : (w.alloc (.cells #[.string a.kd, .int .i64 a.n, .int .i64 a.p.pr, .int .i64 a.p.a1, .int .i64 a.p.p1, .int .i64 a.p.a2, .int .i64 a.p.p2, .int .i64 a.p.fl, .int .i64 a.x.fr, .int .i64 a.x.li, .int .i64 a.x.ep, .bool a.x.cl, .slice xp a.x.cs.length xc, .slice rp a.ru.length rc] 55)).cell? ⟨w.heap.size, 6, none⟩ = some (.int .i64 a.p.p2) := (nw _ _ _ _).trans rfl
  have c7 : (w.alloc (.cells #[.string a.kd, .int .i64 a.n, .int .i64 a.p.pr, .int .i64 a.p.a1, .int .i64 a.p.p1, .int .i64 a.p.a2, .int .i64 a.p.p2, .int .i64 a.p.fl, .int .i64 a.x.fr, .int .i64 a.x.li, .int .i64 a.x.ep, .bool a.x.cl, .slice xp a.x.cs.length xc, .slice rp a.ru.length rc] 55)).cell? ⟨w.heap.size, 7, none⟩ = some (.int .i64 a.p.fl) := (nw _ _ _ _).trans rfl
  have c8 : (w.alloc (.cells #[.string a.kd, .int .i64 a.n, .int .i64 a.p.pr, .int .i64 a.p.a1, .int .i64 a.p.p1, .int .i64 a.p.a2, .int .i64 a.p.p2, .int .i64 a.p.fl, .int .i64 a.x.fr, .int .i64 a.x.li, .int .i64 a.x.ep, .bool a.x.cl, .slice xp a.x.cs.length xc, .slice rp a.ru.length rc] 55)).cell? ⟨w.heap.size, 8, none⟩ = some (.int .i64 a.x.fr) := (nw _ _ _ _).trans rfl
  have c9 : (w.alloc (.cells #[.string a.kd, .int .i64 a.n, .int .i64 a.p.pr, .int .i64 a.p.a1, .int .i64 a.p.p1, .int .i64 a.p.a2, .int .i64 a.p.p2, .int .i64 a.p.fl, .int .i64 a.x.fr, .int .i64 a.x.li, .int .i64 a.x.ep, .bool a.x.cl, .slice xp a.x.cs.length xc, .slice rp a.ru.length rc] 55)).cell? ⟨w.heap.size, 9, none⟩ = some (.int .i64 a.x.li) := (nw _ _ _ _).trans rfl
  have c10 : (w.alloc (.cells #[.string a.kd, .int .i64 a.n, .int .i64 a.p.pr, .int .i64 a.p.a1, .int .i64 a.p.p1, .int .i64 a.p.a2, .int .i64 a.p.p2, .int .i64 a.p.fl, .int .i64 a.x.fr, .int .i64 a.x.li, .int .i64 a.x.ep, .bool a.x.cl, .slice xp a.x.cs.length xc, .slice rp a.ru.length rc] 55)).cell? ⟨w.heap.size, 10, none⟩ = some (.int .i64 a.x.ep) := (nw _ _ _ _).trans rfl
  have c11 : (w.alloc (.cells #[.string a.kd, .int .i64 a.n, .int .i64 a.p.pr, .int .i64 a.p.a1, .int .i64 a.p.p1, .int .i64 a.p.a2, .int .i64 a.p.p2, .int .i64 a.p.fl, .int .i64 a.x.fr, .int .i64 a.x.li, .int .i64 a.x.ep, .bool a.x.cl, .slice xp a.x.cs.length xc, .slice rp a.ru.length rc] 55)).cell? ⟨w.heap.size, 11, none⟩ = some (.bool a.x.cl) := (nw _ _ _ _).trans rfl
  have c12 : (w.alloc (.cells #[.string a.kd, .int .i64 a.n, .int .i64 a.p.pr, .int .i64 a.p.a1, .int .i64 a.p.p1, .int .i64 a.p.a2, .int .i64 a.p.p2, .int .i64 a.p.fl, .int .i64 a.x.fr, .int .i64 a.x.li, .int .i64 a.x.ep, .bool a.x.cl, .slice xp a.x.cs.length xc, .slice rp a.ru.length rc] 55)).cell? ⟨w.heap.size, 12, none⟩ = some (.slice xp a.x.cs.length xc) := (nw _ _ _ _).trans rfl
  have c13 : (w.alloc (.cells #[.string a.kd, .int .i64 a.n, .int .i64 a.p.pr, .int .i64 a.p.a1, .int .i64 a.p.p1, .int .i64 a.p.a2, .int .i64 a.p.p2, .int .i64 a.p.fl, .int .i64 a.x.fr, .int .i64 a.x.li, .int .i64 a.x.ep, .bool a.x.cl, .slice xp a.x.cs.length xc, .slice rp a.ru.length rc] 55)).cell? ⟨w.heap.size, 13, none⟩ = some (.slice rp a.ru.length rc) := (nw _ _ _ _).trans rfl
  have B1 : Hid (Below w.heap.size w (w.alloc (.cells #[.string a.kd, .int .i64 a.n, .int .i64 a.p.pr, .int .i64 a.p.a1, .int .i64 a.p.p1, .int .i64 a.p.a2, .int .i64 a.p.p2, .int .i64 a.p.fl, .int .i64 a.x.fr, .int .i64 a.x.li, .int .i64 a.x.ep, .bool a.x.cl, .slice xp a.x.cs.length xc, .slice rp a.ru.length rc] 55))) := aB _ _
  have HQ0 : Hid (w.heap.size < (w.alloc (.cells #[.string a.kd, .int .i64 a.n, .int .i64 a.p.pr, .int .i64 a.p.a1, .int .i64 a.p.p1, .int .i64 a.p.a2, .int .i64 a.p.p2, .int .i64 a.p.fl, .int .i64 a.x.fr, .int .i64 a.x.li, .int .i64 a.x.ep, .bool a.x.cl, .slice xp a.x.cs.length xc, .slice rp a.ru.length rc] 55)).heap.size) := by show _ < _; rw [World.size_alloc]; omega
  generalize w.alloc (.cells #[.string a.kd, .int .i64 a.n, .int .i64 a.p.pr, .int .i64 a.p.a1, .int .i64 a.p.p1, .int .i64 a.p.a2, .int .i64 a.p.p2, .int .i64 a.p.fl, .int .i64 a.x.fr, .int .i64 a.x.li, .int .i64 a.x.ep, .bool a.x.cl, .slice xp a.x.cs.length xc, .slice rp a.ru.length rc] 55) = w1 at *
  have W1 : Hid (NB w0 w1 k r x j x j) := HW.out.below B1.out
  have HQ : Hid (¬ w.heap.size ∈ k.all ∧ ¬ w.heap.size ∈ r.all) := ⟨fun hm => by have := HW.out.kl _ hm; omega, fun hm => by have := HW.out.rl _ hm; omega⟩
  generalize w.heap.size = Q at c0 c1 c2 c3 c4 c5 c6 c7 c8 c9 c10 c11 c12 c13 HQ HQ0 ⊢
  go_wp2_with fail
  · refine (inside_p HS.out.mm W1.out (by have := HJ.out; omega) a.p HK.out.1.pr).mono ?_
    rintro e w2 ⟨rfl, n2, k2⟩
    have N2 : Hid (NB w0 w2 k r (x.ins a.p) (j + 1) x j) := n2
    have d2 := k2.keeps HQ.out.1 c2
    have d3 := k2.keeps HQ.out.1 c3
    have d4 := k2.keeps HQ.out.1 c4
    have d5 := k2.keeps HQ.out.1 c5
    have d6 := k2.keeps HQ.out.1 c6
    have d7 := k2.keeps HQ.out.1 c7
    have hQ2 : Q < w2.heap.size := Nat.lt_of_lt_of_le HQ0.out k2.size
    clear n2 k2 c0 c1 c2 c3 c4 c5 c6 c7 c8 c9 c10 c11 c12 c13
    obtain ⟨e1, he1⟩ : ∃ e1, x.inE a.p = e1 := ⟨_, rfl⟩
    have HE1 : Hid (e1 ≤ 11) := (he1 ▸ inE_le x a.p : e1 ≤ 11)
    obtain ⟨p1, hp1⟩ : ∃ p1, x.inP a.p = p1 := ⟨_, rfl⟩
    have HP1 : Hid (x.inE a.p = e1 ∧ x.inP a.p = p1) := ⟨he1, hp1⟩
    rw [he1, hp1]
    clear he1 hp1
    go_wp2_with fail
    have BP : Hid (Below w2.heap.size w2 (w2.alloc (.cells #[.int .i64 p1.pr, .int .i64 p1.a1, .int .i64 p1.p1, .int .i64 p1.a2, .int .i64 p1.p2, .int .i64 p1.fl] 50))) := aB _ _
    have ZP : Hid (PkZ (w2.alloc (.cells #[.int .i64 p1.pr, .int .i64 p1.a1, .int .i64 p1.p1, .int .i64 p1.a2, .int .i64 p1.p2, .int .i64 p1.fl] 50)) w2.heap.size p1) := heap_alloc_new _ _
    have HZP : Hid (∀ b, b ∈ r.all → b ≠ w2.heap.size) := fun b hb e => by have := N2.out.rl b hb; omega
    generalize w2.alloc (.cells #[.int .i64 p1.pr, .int .i64 p1.a1, .int .i64 p1.p1, .int .i64 p1.a2, .int .i64 p1.p2, .int .i64 p1.fl] 50) = w2a at *
    have N2a := N2.out.below BP.out
    generalize w2.heap.size = P1 at ZP HZP ⊢
    refine (inside_d N2a (by have := HJ.out; omega) a.p).mono ?_
    rintro e w3 ⟨rfl, n3, k3⟩
    have N3 : Hid (NB w0 w3 k r (x.ins a.p) (j + 1) (x.ins a.p) (j + 1)) := n3
    rw [HP1.out.1, HP1.out.2]
    have ZP3 : Hid (PkZ w3 P1 p1) := by show PkZ _ _ _; unfold PkZ; rw [k3.block P1 (PkZ.lt ZP.out) (fun hm => HZP.out P1 hm rfl)]; exact ZP.out
    have hP3 : P1 < w3.heap.size := PkZ.lt ZP3.out
    have q3 := ZP3.out.b
    have z0 := q3.c0
    have z1 := q3.c1
    have z2 := q3.c2
    have z3 := q3.c3
    have z4 := q3.c4
    have z5 := q3.c5
    clear n3 k3 d2 d3 d4 d5 d6 d7 hQ2 q3 N2a
    have hq : ∀ w : World, (binOp .eql 50 (.agg #[.int .i64 p1.pr, .int .i64 p1.a1, .int .i64 p1.p1, .int .i64 p1.a2, .int .i64 p1.p2, .int .i64 p1.fl]) (.agg #[.int .i64 p1.pr, .int .i64 p1.a1, .int .i64 p1.p1, .int .i64 p1.a2, .int .i64 p1.p2, .int .i64 p1.fl])).run Tryz.prog w = .ok (.bool true) w := eqlP p1
    go_wp2_with fail
    have BW : Hid (Below w3.heap.size w3 (w3.alloc (.cells #[.int .i64 p1.pr, .int .i64 p1.a1, .int .i64 p1.p1, .int .i64 p1.a2, .int .i64 p1.p2, .int .i64 p1.fl] 50))) := aB _ _
    have ZW : Hid (PkZ (w3.alloc (.cells #[.int .i64 p1.pr, .int .i64 p1.a1, .int .i64 p1.p1, .int .i64 p1.a2, .int .i64 p1.p2, .int .i64 p1.fl] 50)) w3.heap.size p1) := heap_alloc_new _ _
    have N4 : Hid (NB w0 (w3.alloc (.cells #[.int .i64 p1.pr, .int .i64 p1.a1, .int .i64 p1.p1, .int .i64 p1.a2, .int .i64 p1.p2, .int .i64 p1.fl] 50)) k r _ (j + 1) _ (j + 1)) := N3.out.below BW.out
    have ZV : Hid (PkZ (w3.alloc (.cells #[.int .i64 p1.pr, .int .i64 p1.a1, .int .i64 p1.p1, .int .i64 p1.a2, .int .i64 p1.p2, .int .i64 p1.fl] 50)) P1 p1) := ZP3.out.below BW.out
    generalize w3.alloc (.cells #[.int .i64 p1.pr, .int .i64 p1.a1, .int .i64 p1.p1, .int .i64 p1.a2, .int .i64 p1.p2, .int .i64 p1.fl] 50) = w4 at *
    generalize w3.heap.size = P2 at ZW ⊢
    clear z0 z1 z2 z3 z4 z5 hP3
    refine (coded2_any e1 HE1.out _ s w4 (HS.out.below N4.out.bl)).mono ?_
    rintro e w5 ⟨rfl, hb5⟩
    have N5 : Hid (NB w0 w5 k r _ (j + 1) _ (j + 1)) := N4.out.below hb5
    have y0 := (ZV.out.below hb5).b.c0
    have y1 := (ZV.out.below hb5).b.c1
    have y2 := (ZV.out.below hb5).b.c2
    have y3 := (ZV.out.below hb5).b.c3
    have y4 := (ZV.out.below hb5).b.c4
    have y5 := (ZV.out.below hb5).b.c5
    have v0 := (ZW.out.below hb5).b.c0
    have v1 := (ZW.out.below hb5).b.c1
    have v2 := (ZW.out.below hb5).b.c2
    have v3 := (ZW.out.below hb5).b.c3
    have v4 := (ZW.out.below hb5).b.c4
    have v5 := (ZW.out.below hb5).b.c5
    clear hb5
    have hee : ((e1 : Int) == (e1 : Int)) = true := beq_self_eq_true _
    go_wp2_with fail
    all_goals go_ret
    all_goals exact ⟨rfl, k, r, _, j + 1, j + 1, N5.out, by omega, by omega, rfl, rfl, rfl, rfl⟩
  · refine (outside_p HS.out.mm W1.out (by have := HJ.out; omega) a.p).mono ?_
    rintro e w2 ⟨rfl, n2, k2⟩
    have N2 : Hid (NB w0 w2 k r (x.ots a.p) (j + 1) x j) := n2
    have d2 := k2.keeps HQ.out.1 c2
    have d3 := k2.keeps HQ.out.1 c3
    have d4 := k2.keeps HQ.out.1 c4
    have d5 := k2.keeps HQ.out.1 c5
    have d6 := k2.keeps HQ.out.1 c6
    have d7 := k2.keeps HQ.out.1 c7
    have hQ2 : Q < w2.heap.size := Nat.lt_of_lt_of_le HQ0.out k2.size
    clear n2 k2 c0 c1 c2 c3 c4 c5 c6 c7 c8 c9 c10 c11 c12 c13
    obtain ⟨e1, he1⟩ : ∃ e1, x.otE a.p = e1 := ⟨_, rfl⟩
    have HE1 : Hid (e1 ≤ 11) := (he1 ▸ otE_le x a.p : e1 ≤ 11)
    obtain ⟨p1, hp1⟩ : ∃ p1, x.otP a.p = p1 := ⟨_, rfl⟩
    have HP1 : Hid (x.otE a.p = e1 ∧ x.otP a.p = p1) := ⟨he1, hp1⟩
    rw [he1, hp1]
    clear he1 hp1
    go_wp2_with fail
    have BP : Hid (Below w2.heap.size w2 (w2.alloc (.cells #[.int .i64 p1.pr, .int .i64 p1.a1, .int .i64 p1.p1, .int .i64 p1.a2, .int .i64 p1.p2, .int .i64 p1.fl] 50))) := aB _ _
    have ZP : Hid (PkZ (w2.alloc (.cells #[.int .i64 p1.pr, .int .i64 p1.a1, .int .i64 p1.p1, .int .i64 p1.a2, .int .i64 p1.p2, .int .i64 p1.fl] 50)) w2.heap.size p1) := heap_alloc_new _ _
    have HZP : Hid (∀ b, b ∈ r.all → b ≠ w2.heap.size) := fun b hb e => by have := N2.out.rl b hb; omega
    generalize w2.alloc (.cells #[.int .i64 p1.pr, .int .i64 p1.a1, .int .i64 p1.p1, .int .i64 p1.a2, .int .i64 p1.p2, .int .i64 p1.fl] 50) = w2a at *
    have N2a := N2.out.below BP.out
    generalize w2.heap.size = P1 at ZP HZP ⊢
    refine (outside_d N2a (by have := HJ.out; omega) a.p).mono ?_
    rintro e w3 ⟨rfl, n3, k3⟩
    have N3 : Hid (NB w0 w3 k r (x.ots a.p) (j + 1) (x.ots a.p) (j + 1)) := n3
    rw [HP1.out.1, HP1.out.2]
    have ZP3 : Hid (PkZ w3 P1 p1) := by show PkZ _ _ _; unfold PkZ; rw [k3.block P1 (PkZ.lt ZP.out) (fun hm => HZP.out P1 hm rfl)]; exact ZP.out
    have hP3 : P1 < w3.heap.size := PkZ.lt ZP3.out
    have q3 := ZP3.out.b
    have z0 := q3.c0
    have z1 := q3.c1
    have z2 := q3.c2
    have z3 := q3.c3
    have z4 := q3.c4
    have z5 := q3.c5
    clear n3 k3 d2 d3 d4 d5 d6 d7 hQ2 q3 N2a
    have hq : ∀ w : World, (binOp .eql 50 (.agg #[.int .i64 p1.pr, .int .i64 p1.a1, .int .i64 p1.p1, .int .i64 p1.a2, .int .i64 p1.p2, .int .i64 p1.fl]) (.agg #[.int .i64 p1.pr, .int .i64 p1.a1, .int .i64 p1.p1, .int .i64 p1.a2, .int .i64 p1.p2, .int .i64 p1.fl])).run Tryz.prog w = .ok (.bool true) w := eqlP p1
    go_wp2_with fail
    have BW : Hid (Below w3.heap.size w3 (w3.alloc (.cells #[.int .i64 p1.pr, .int .i64 p1.a1, .int .i64 p1.p1, .int .i64 p1.a2, .int .i64 p1.p2, .int .i64 p1.fl] 50))) := aB _ _
    have ZW : Hid (PkZ (w3.alloc (.cells #[.int .i64 p1.pr, .int .i64 p1.a1, .int .i64 p1.p1, .int .i64 p1.a2, .int .i64 p1.p2, .int .i64 p1.fl] 50)) w3.heap.size p1) := heap_alloc_new _ _
    have N4 : Hid (NB w0 (w3.alloc (.cells #[.int .i64 p1.pr, .int .i64 p1.a1, .int .i64 p1.p1, .int .i64 p1.a2, .int .i64 p1.p2, .int .i64 p1.fl] 50)) k r _ (j + 1) _ (j + 1)) := N3.out.below BW.out
    have ZV : Hid (PkZ (w3.alloc (.cells #[.int .i64 p1.pr, .int .i64 p1.a1, .int .i64 p1.p1, .int .i64 p1.a2, .int .i64 p1.p2, .int .i64 p1.fl] 50)) P1 p1) := ZP3.out.below BW.out
    generalize w3.alloc (.cells #[.int .i64 p1.pr, .int .i64 p1.a1, .int .i64 p1.p1, .int .i64 p1.a2, .int .i64 p1.p2, .int .i64 p1.fl] 50) = w4 at *
    generalize w3.heap.size = P2 at ZW ⊢
    clear z0 z1 z2 z3 z4 z5 hP3
    refine (coded2_any e1 HE1.out _ s w4 (HS.out.below N4.out.bl)).mono ?_
    rintro e w5 ⟨rfl, hb5⟩
    have N5 : Hid (NB w0 w5 k r _ (j + 1) _ (j + 1)) := N4.out.below hb5
    have y0 := (ZV.out.below hb5).b.c0
    have y1 := (ZV.out.below hb5).b.c1
    have y2 := (ZV.out.below hb5).b.c2
    have y3 := (ZV.out.below hb5).b.c3
    have y4 := (ZV.out.below hb5).b.c4
    have y5 := (ZV.out.below hb5).b.c5
    have v0 := (ZW.out.below hb5).b.c0
    have v1 := (ZW.out.below hb5).b.c1
    have v2 := (ZW.out.below hb5).b.c2
    have v3 := (ZW.out.below hb5).b.c3
    have v4 := (ZW.out.below hb5).b.c4
    have v5 := (ZW.out.below hb5).b.c5
    clear hb5
    have hee : ((e1 : Int) == (e1 : Int)) = true := beq_self_eq_true _
    go_wp2_with fail
    all_goals go_ret
    all_goals exact ⟨rfl, k, r, _, j + 1, j + 1, N5.out, by omega, by omega, rfl, rfl, rfl, rfl⟩
  · have hS : w1.drew.cell? ⟨Q, 8, none⟩ = some (.int .i64 a.x.fr) ∧ w1.drew.cell? ⟨Q, 9, none⟩ = some (.int .i64 a.x.li) ∧ w1.drew.cell? ⟨Q, 10, none⟩ = some (.int .i64 a.x.ep) ∧ w1.drew.cell? ⟨Q, 11, none⟩ = some (.bool a.x.cl) ∧ w1.drew.cell? ⟨Q, 12, none⟩ = some (.slice xp a.x.cs.length xc) := ⟨c8, c9, c10, c11, c12⟩
    have N1 : Hid (NB w0 w1.drew k r x j x j) := W1.out.below (Below.refl _ _).drew
    have T1 : Hid (TcS w1.drew (.slice xp a.x.cs.length xc) a.x.cs) := by
      have := HK.out.1.cs.below N1.out.bl
      rw [HXV.out] at this
      exact this
    have HL : Hid (a.x.cs.length ≤ 20) := HK.out.2.1
    have HQ1 : Hid (Q < w1.drew.heap.size) := HQ0.out
    clear c0 c1 c2 c3 c4 c5 c6 c7 c8 c9 c10 c11 c12 c13
    obtain ⟨e1, he1⟩ : ∃ e1, x.heE a.x = e1 := ⟨_, rfl⟩
    have HE1 : Hid (x.heE a.x = e1 ∧ e1 ≤ 11) := ⟨he1, he1 ▸ heE_le x a.x⟩
    clear he1
    go_region_held3 (fun w' => w'.cell? ⟨Q, 8, none⟩ = some (.int .i64 a.x.fr) ∧ w'.cell? ⟨Q, 9, none⟩ = some (.int .i64 a.x.li) ∧ w'.cell? ⟨Q, 10, none⟩ = some (.int .i64 a.x.ep) ∧ w'.cell? ⟨Q, 11, none⟩ = some (.bool a.x.cl) ∧ w'.cell? ⟨Q, 12, none⟩ = some (.slice xp a.x.cs.length xc))
      (first | exact hS | exact s2 | exact s3 | exact s4 | exact s5)
      (first
        | (go_at_call 45; refine (noteof_any a.x _ _ T1.out (by have := HL.out; omega)).mono ?_; rintro e w2 ⟨⟨v2, rfl, p2, c2, rfl, r2, f2⟩, b2⟩; have s2 : w2.cell? ⟨Q, 8, none⟩ = some (.int .i64 a.x.fr) ∧ w2.cell? ⟨Q, 9, none⟩ = some (.int .i64 a.x.li) ∧ w2.cell? ⟨Q, 10, none⟩ = some (.int .i64 a.x.ep) ∧ w2.cell? ⟨Q, 11, none⟩ = some (.bool a.x.cl) ∧ w2.cell? ⟨Q, 12, none⟩ = some (.slice xp a.x.cs.length xc) := ⟨tk b2 hS.1, tk b2 hS.2.1, tk b2 hS.2.2.1, tk b2 hS.2.2.2.1, tk b2 hS.2.2.2.2⟩; have N2 : Hid (NB w0 w2 k r x j x j) := N1.out.below b2; have R2 : Hid (TcR w2 p2 a.x.cs ∧ ∀ g o, p2 = some ⟨g, o, none⟩ → ¬ g ∈ k.all) := ⟨r2, fun g o e hm => by have h1 := f2 g o e; have h2 := N1.out.kl g hm; omega⟩; clear r2 f2 b2)
        | (go_at_call 44; refine (hear_p HS.out.mm N2.out a.x p2 c2 R2.out.1 R2.out.2 (by have := HL.out; omega) HK.out.1.ok).mono ?_; rintro e w3 ⟨rfl, n3, k3⟩; rw [HE1.out.1]; have N3 : Hid (NB w0 w3 k r (x.hrd a.x) j x j) := n3; have s3 : w3.cell? ⟨Q, 8, none⟩ = some (.int .i64 a.x.fr) ∧ w3.cell? ⟨Q, 9, none⟩ = some (.int .i64 a.x.li) ∧ w3.cell? ⟨Q, 10, none⟩ = some (.int .i64 a.x.ep) ∧ w3.cell? ⟨Q, 11, none⟩ = some (.bool a.x.cl) ∧ w3.cell? ⟨Q, 12, none⟩ = some (.slice xp a.x.cs.length xc) := ⟨k3.keeps HQ.out.1 s2.1, k3.keeps HQ.out.1 s2.2.1, k3.keeps HQ.out.1 s2.2.2.1, k3.keeps HQ.out.1 s2.2.2.2.1, k3.keeps HQ.out.1 s2.2.2.2.2⟩; clear n3 k3)
        | (go_at_call 46; refine (hear_d N3.out a.x xp xc (HRU.out.2.below N3.out.bl) (fun hne b o e hm => by obtain ⟨t0, ht0⟩ := List.exists_mem_of_ne_nil _ hne; obtain ⟨i0, hi0⟩ := List.getElem?_of_mem ht0; obtain ⟨b1, o1, e1', hc1⟩ := HRU.out.2 i0 t0 hi0; rw [e] at e1'; cases e1'; have h1 : b < w0.heap.size := tlt hc1.c0; have h2 := N3.out.rg b hm; omega) (by have := HL.out; omega)).mono ?_; rintro e w4 ⟨rfl, n4, k4⟩; rw [HE1.out.1]; have N4 : Hid (HrB w0 w4 k r (x.hrd a.x) j (x.hrd a.x) j) := n4; have s4 : w4.cell? ⟨Q, 8, none⟩ = some (.int .i64 a.x.fr) ∧ w4.cell? ⟨Q, 9, none⟩ = some (.int .i64 a.x.li) ∧ w4.cell? ⟨Q, 10, none⟩ = some (.int .i64 a.x.ep) ∧ w4.cell? ⟨Q, 11, none⟩ = some (.bool a.x.cl) ∧ w4.cell? ⟨Q, 12, none⟩ = some (.slice xp a.x.cs.length xc) := ⟨k4.keeps HQ.out.2 s3.1, k4.keeps HQ.out.2 s3.2.1, k4.keeps HQ.out.2 s3.2.2.1, k4.keeps HQ.out.2 s3.2.2.2.1, k4.keeps HQ.out.2 s3.2.2.2.2⟩; have S4 : Hid (Sents w4 s) := (by obtain ⟨g', cp', nb⟩ := N4.out; exact HS.out.below nb.bl); clear n4 k4)
        | (go_at_call 10; refine (coded2_any e1 HE1.out.2 _ s w4 S4.out).mono ?_; rintro e w5 ⟨rfl, b5⟩; have N5 : Hid (HrB w0 w5 k r (x.hrd a.x) j (x.hrd a.x) j) := (by obtain ⟨g', cp', nb⟩ := N4.out; exact ⟨g', cp', nb.below b5⟩); have s5 : w5.cell? ⟨Q, 8, none⟩ = some (.int .i64 a.x.fr) ∧ w5.cell? ⟨Q, 9, none⟩ = some (.int .i64 a.x.li) ∧ w5.cell? ⟨Q, 10, none⟩ = some (.int .i64 a.x.ep) ∧ w5.cell? ⟨Q, 11, none⟩ = some (.bool a.x.cl) ∧ w5.cell? ⟨Q, 12, none⟩ = some (.slice xp a.x.cs.length xc) := ⟨tk b5 s4.1, tk b5 s4.2.1, tk b5 s4.2.2.1, tk b5 s4.2.2.2.1, tk b5 s4.2.2.2.2⟩; clear b5))
    go_wp2_with fail
    go_ret
    obtain ⟨g', cp', nb⟩ := N5.out
    exact ⟨rfl, k, { r with mg := g', mc := cp' }, _, j, j, nb, by omega, by omega, rfl, rfl, rfl, rfl⟩
  · have HL : Hid (a.ru.length ≤ 30) := HK.out.2.2.1
    refine (rfault_any rp a.ru rc w1 (HRU.out.1.below W1.out.bl) (by have := HL.out; omega)).mono ?_
    rintro e w2 ⟨rfl, hb2⟩
    have N2 : Hid (NB w0 w2 k r x j x j) := W1.out.below hb2
    have d13 := tk hb2 c13
    have hQ2 : Q < w2.heap.size := Nat.lt_of_lt_of_le HQ0.out hb2.size
    clear hb2 c0 c1 c2 c3 c4 c5 c6 c7 c8 c9 c10 c11 c12 c13
    obtain ⟨f1, hf1⟩ : ∃ f1, (faultOf a.ru).1 = f1 := ⟨_, rfl⟩
    obtain ⟨f2, hf2⟩ : ∃ f2, (faultOf a.ru).2 = f2 := ⟨_, rfl⟩
    have HF : Hid ((faultOf a.ru).1 = f1 ∧ (faultOf a.ru).2 = f2) := ⟨hf1, hf2⟩
    rw [hf1, hf2]
    clear hf1 hf2
    obtain ⟨q0, lo0, _, _, d0⟩ := N2.out.d
    have b7 := d0.nd.b7
    have f7 := d0.nd.fr 7 (by omega)
    have hn7 := d0.blk _ r.m_nd
    clear d0
    by_cases hok : RulesOk a.ru
    · have hf : f1 = 0 := by rw [← HF.out.1]; unfold faultOf; rw [if_neg (by have := hok.1; omega), hok.2]
      subst hf
      have HOK : Hid (RulesOk a.ru) := hok
      go_wp2_with fail
      have hsz7 : (w2.setCell ⟨r.nd, 7, none⟩ (.slice rp a.ru.length rc)).heap.size = w2.heap.size := World.size_setCell _ _ _
      have x0 : ((w2.setCell ⟨r.nd, 7, none⟩ (.slice rp a.ru.length rc)).alloc (.cells #[.int .i64 0, .int .i64 f2] 37)).cell? ⟨w2.heap.size, 0, none⟩ = some (.int .i64 0) := by rw [← hsz7]; exact (nw _ _ _ _).trans rfl
      have x1 : ((w2.setCell ⟨r.nd, 7, none⟩ (.slice rp a.ru.length rc)).alloc (.cells #[.int .i64 0, .int .i64 f2] 37)).cell? ⟨w2.heap.size, 1, none⟩ = some (.int .i64 f2) := by rw [← hsz7]; exact (nw _ _ _ _).trans rfl
      have x13 : ((w2.setCell ⟨r.nd, 7, none⟩ (.slice rp a.ru.length rc)).alloc (.cells #[.int .i64 0, .int .i64 f2] 37)).cell? ⟨Q, 13, none⟩ = some (.slice rp a.ru.length rc) := tk (aB _ _) ((World.cell?_setCell_other _ _ _ _ (fun e => HQ.out.2 (by have e2 := congrArg Addr.block e; simp only at e2; rw [show Q = r.nd by omega]; exact r.m_nd))).trans d13)
      have N3 : Hid (NB w0 ((w2.setCell ⟨r.nd, 7, none⟩ (.slice rp a.ru.length rc)).alloc (.cells #[.int .i64 0, .int .i64 f2] 37)) k { r with rp := rp, rc := rc } x j { x with ru := a.ru } j) := (N2.out.setRu rp rc a.ru HRU.out.1 (by have := HL.out; omega)).below (aB _ _)
      have HFF : Hid (¬ w2.heap.size ∈ k.all) := fun hm => by have := N2.out.kl _ hm; omega
      generalize (w2.setCell ⟨r.nd, 7, none⟩ (.slice rp a.ru.length rc)).alloc (.cells #[.int .i64 0, .int .i64 f2] 37) = w3 at *
      clear hok b7 f7 hn7 d13 hQ2 hsz7
      generalize w2.heap.size = F at x0 x1 HFF ⊢
      have hS : w3.drew.cell? ⟨Q, 13, none⟩ = some (.slice rp a.ru.length rc) ∧ w3.drew.cell? ⟨F, 0, none⟩ = some (.int .i64 0) ∧ w3.drew.cell? ⟨F, 1, none⟩ = some (.int .i64 f2) := ⟨x13, x0, x1⟩
      have D3 : Hid (NB w0 w3.drew k { r with rp := rp, rc := rc } x j { x with ru := a.ru } j) := N3.out.below (Below.refl _ _).drew
      have R3 : Hid (Sl w3.drew (.slice rp a.ru.length rc) a.ru) := by
        have := HK.out.1.ru.below D3.out.bl
        rw [HRV.out] at this
        exact this
      clear x0 x1 x13
      go_region_held3 (fun w' => w'.cell? ⟨Q, 13, none⟩ = some (.slice rp a.ru.length rc) ∧ w'.cell? ⟨F, 0, none⟩ = some (.int .i64 0) ∧ w'.cell? ⟨F, 1, none⟩ = some (.int .i64 f2))
        (first | exact hS | exact s4 | exact s5 | exact s6)
        (first
          | (go_at_call 9; refine (own_any _ a.ru _ R3.out (by have := HL.out; omega)).mono ?_; rintro e w4 ⟨⟨v4, rfl, r4⟩, b4⟩; have s4 : w4.cell? ⟨Q, 13, none⟩ = some (.slice rp a.ru.length rc) ∧ w4.cell? ⟨F, 0, none⟩ = some (.int .i64 0) ∧ w4.cell? ⟨F, 1, none⟩ = some (.int .i64 f2) := ⟨tk b4 hS.1, tk b4 hS.2.1, tk b4 hS.2.2⟩; have N4 : Hid (NB w0 w4 k { r with rp := rp, rc := rc } x j { x with ru := a.ru } j) := D3.out.below b4; have R4 : Hid (Sl w4 v4 a.ru) := r4; clear r4 b4)
          | (go_at_call 47; refine (rules_p HS.out.mm N4.out v4 a.ru R4.out (by have := HL.out; omega)).mono ?_; rintro e w5 ⟨ru5, k5⟩; have s5 : w5.cell? ⟨Q, 13, none⟩ = some (.slice rp a.ru.length rc) ∧ w5.cell? ⟨F, 0, none⟩ = some (.int .i64 0) ∧ w5.cell? ⟨F, 1, none⟩ = some (.int .i64 f2) := ⟨k5.keeps HQ.out.1 s4.1, k5.keeps HFF.out s4.2.1, k5.keeps HFF.out s4.2.2⟩; clear k5; rcases ru5 with ⟨_, rfl, p5, c5, n5⟩ | ⟨no, _⟩; rotate_left; exact absurd HOK.out no; have N5 : Hid (NB w0 w5 (k.withRu p5 c5) { r with rp := rp, rc := rc } { x with ru := a.ru } j { x with ru := a.ru } j) := n5; have A5 : Hid (Calls Tryz.prog 12 #[.nilIface, .agg #[.int .i64 0, .int .i64 f2]] w5 fun e w' => e = .returned (.bool true) ∧ Below w5.heap.size w5 w') := (by have h := faulted2_chk (l := a.ru) (v := .nilIface) s w5 (HS.out.below N5.out.bl) (Or.inr (Or.inl ⟨HOK.out.1, HOK.out.2, rfl⟩)); rw [HF.out.1, HF.out.2] at h; exact h); clear n5)
          | (go_at_call 12; refine A5.out.mono ?_; rintro e w6 ⟨rfl, b6⟩; have s6 : w6.cell? ⟨Q, 13, none⟩ = some (.slice rp a.ru.length rc) ∧ w6.cell? ⟨F, 0, none⟩ = some (.int .i64 0) ∧ w6.cell? ⟨F, 1, none⟩ = some (.int .i64 f2) := ⟨tk b6 s5.1, tk b6 s5.2.1, tk b6 s5.2.2⟩; have N6 : Hid (NB w0 w6 (k.withRu p5 c5) { r with rp := rp, rc := rc } { x with ru := a.ru } j { x with ru := a.ru } j) := N5.out.below b6; clear b6))
      go_wp2_with fail
      go_ret
      exact ⟨rfl, k.withRu p5 c5, { r with rp := rp, rc := rc }, _, j, j, N6.out, by omega, by omega, rfl, rfl, rfl, rfl⟩
    · have hf : (f1 == 0) = false := by
        rw [← HF.out.1]
        unfold faultOf
        by_cases h20 : 20 < a.ru.length
        · rw [if_pos h20]; rfl
        · rw [if_neg h20]
          cases hc : chkAt a.ru 0 with
          | none => exact absurd ⟨by omega, hc⟩ hok
          | some i0 => rfl
      have HOK : Hid (¬ RulesOk a.ru) := hok
      go_wp2_with fail
      have x0 : (w2.alloc (.cells #[.int .i64 f1, .int .i64 f2] 37)).cell? ⟨w2.heap.size, 0, none⟩ = some (.int .i64 f1) := (nw _ _ _ _).trans rfl
      have x1 : (w2.alloc (.cells #[.int .i64 f1, .int .i64 f2] 37)).cell? ⟨w2.heap.size, 1, none⟩ = some (.int .i64 f2) := (nw _ _ _ _).trans rfl
      have x13 : (w2.alloc (.cells #[.int .i64 f1, .int .i64 f2] 37)).cell? ⟨Q, 13, none⟩ = some (.slice rp a.ru.length rc) := tk (aB _ _) d13
      have N3 : Hid (NB w0 (w2.alloc (.cells #[.int .i64 f1, .int .i64 f2] 37)) k r x j x j) := N2.out.below (aB _ _)
      have HFF : Hid (¬ w2.heap.size ∈ k.all) := fun hm => by have := N2.out.kl _ hm; omega
      generalize w2.alloc (.cells #[.int .i64 f1, .int .i64 f2] 37) = w3 at *
      clear hok b7 f7 hn7 d13 hQ2
      generalize w2.heap.size = F at x0 x1 HFF ⊢
      have hS : w3.drew.cell? ⟨Q, 13, none⟩ = some (.slice rp a.ru.length rc) ∧ w3.drew.cell? ⟨F, 0, none⟩ = some (.int .i64 f1) ∧ w3.drew.cell? ⟨F, 1, none⟩ = some (.int .i64 f2) := ⟨x13, x0, x1⟩
      have D3 : Hid (NB w0 w3.drew k r x j x j) := N3.out.below (Below.refl _ _).drew
      have R3 : Hid (Sl w3.drew (.slice rp a.ru.length rc) a.ru) := by
        have := HK.out.1.ru.below D3.out.bl
        rw [HRV.out] at this
        exact this
      clear x0 x1 x13
      go_region_held3 (fun w' => w'.cell? ⟨Q, 13, none⟩ = some (.slice rp a.ru.length rc) ∧ w'.cell? ⟨F, 0, none⟩ = some (.int .i64 f1) ∧ w'.cell? ⟨F, 1, none⟩ = some (.int .i64 f2))
        (first | exact hS | exact s4 | exact s5 | exact s6)
        (first
          | (go_at_call 9; refine (own_any _ a.ru _ R3.out (by have := HL.out; omega)).mono ?_; rintro e w4 ⟨⟨v4, rfl, r4⟩, b4⟩; have s4 : w4.cell? ⟨Q, 13, none⟩ = some (.slice rp a.ru.length rc) ∧ w4.cell? ⟨F, 0, none⟩ = some (.int .i64 f1) ∧ w4.cell? ⟨F, 1, none⟩ = some (.int .i64 f2) := ⟨tk b4 hS.1, tk b4 hS.2.1, tk b4 hS.2.2⟩; have N4 : Hid (NB w0 w4 k r x j x j) := D3.out.below b4; have R4 : Hid (Sl w4 v4 a.ru) := r4; clear r4 b4)
          | (go_at_call 47; refine (rules_p HS.out.mm N4.out v4 a.ru R4.out (by have := HL.out; omega)).mono ?_; rintro e w5 ⟨ru5, k5⟩; have s5 : w5.cell? ⟨Q, 13, none⟩ = some (.slice rp a.ru.length rc) ∧ w5.cell? ⟨F, 0, none⟩ = some (.int .i64 f1) ∧ w5.cell? ⟨F, 1, none⟩ = some (.int .i64 f2) := ⟨k5.keeps HQ.out.1 s4.1, k5.keeps HFF.out s4.2.1, k5.keeps HFF.out s4.2.2⟩; clear k5; rcases ru5 with ⟨yes, _⟩ | ⟨_, ⟨v5, rfl, ck5⟩, n5⟩; exact absurd yes HOK.out; have N5 : Hid (NB w0 w5 k r x j x j) := n5; have A5 : Hid (Calls Tryz.prog 12 #[v5, .agg #[.int .i64 f1, .int .i64 f2]] w5 fun e w' => e = .returned (.bool true) ∧ Below w5.heap.size w5 w') := (by have h := faulted2_chk (l := a.ru) s w5 (HS.out.below N5.out.bl) ck5; rw [HF.out.1, HF.out.2] at h; exact h); clear n5 ck5)
          | (go_at_call 12; refine A5.out.mono ?_; rintro e w6 ⟨rfl, b6⟩; have s6 : w6.cell? ⟨Q, 13, none⟩ = some (.slice rp a.ru.length rc) ∧ w6.cell? ⟨F, 0, none⟩ = some (.int .i64 f1) ∧ w6.cell? ⟨F, 1, none⟩ = some (.int .i64 f2) := ⟨tk b6 s5.1, tk b6 s5.2.1, tk b6 s5.2.2⟩; have N6 : Hid (NB w0 w6 k r x j x j) := N5.out.below b6; clear b6))
      go_wp2_with fail
      go_ret
      exact ⟨rfl, k, r, _, j, j, N6.out, by omega, by omega, rfl, rfl, rfl, rfl⟩
  · have hS : w1.drew.cell? ⟨Q, 1, none⟩ = some (.int .i64 a.n) := c1
    have N1 : Hid (NB w0 w1.drew k r x j x j) := W1.out.below (Below.refl _ _).drew
    have HN : Hid (a.n ≤ 1000) := HK.out.2.2.2
    have HQ1 : Hid (Q < w1.drew.heap.size) := HQ0.out
    clear c0 c1 c2 c3 c4 c5 c6 c7 c8 c9 c10 c11 c12 c13
    obtain ⟨e1, he1⟩ : ∃ e1, cutE x.y a.n = e1 := ⟨_, rfl⟩
    have HE1 : Hid (cutE x.y a.n = e1 ∧ e1 ≤ 11) := ⟨he1, he1 ▸ cutE_le x.y a.n⟩
    clear he1
    go_region_held3 (fun w' => w'.cell? ⟨Q, 1, none⟩ = some (.int .i64 a.n))
      (first | exact hS | exact s3 | exact s4 | exact s5)
      (first
        | (go_at_call 48; refine (cut_p HS.out.mm N1.out a.n HN.out).mono ?_; rintro e w3 ⟨rfl, n3, k3⟩; rw [HE1.out.1]; have N3 : Hid (NB w0 w3 k r { x with y := x.y.setCut a.n } j x j) := n3; have s3 : w3.cell? ⟨Q, 1, none⟩ = some (.int .i64 a.n) := k3.keeps HQ.out.1 hS; clear n3 k3)
        | (go_at_call 49; refine (cut_d N3.out a.n HN.out).mono ?_; rintro e w4 ⟨rfl, n4, k4⟩; rw [HE1.out.1]; have N4 : Hid (NB w0 w4 k r { x with y := x.y.setCut a.n } j { x with y := x.y.setCut a.n } j) := n4; have s4 : w4.cell? ⟨Q, 1, none⟩ = some (.int .i64 a.n) := k4.keeps HQ.out.2 s3; clear n4 k4)
        | (go_at_call 10; refine (coded2_any e1 HE1.out.2 _ s w4 (HS.out.below N4.out.bl)).mono ?_; rintro e w5 ⟨rfl, b5⟩; have N5 : Hid (NB w0 w5 k r { x with y := x.y.setCut a.n } j { x with y := x.y.setCut a.n } j) := N4.out.below b5; have s5 : w5.cell? ⟨Q, 1, none⟩ = some (.int .i64 a.n) := tk b5 s4; clear b5))
    go_wp2_with fail
    go_ret
    exact ⟨rfl, k, r, _, j, j, N5.out, by omega, by omega, rfl, rfl, rfl, rfl⟩
  · have HN : Hid (a.n ≤ 1000) := HK.out.2.2.2
    have g1 : (a.kd.toList == [105, 110, 115, 105, 100, 101]) = false := by assumption
    have g2 : (a.kd.toList == [111, 117, 116, 115, 105, 100, 101]) = false := by assumption
    have g3 : (a.kd.toList == [104, 101, 97, 114]) = false := by assumption
    have g4 : (a.kd.toList == [114, 117, 108, 101, 115]) = false := by assumption
    have g5 : (a.kd.toList == [99, 117, 116]) = false := by assumption
    simp only [g1, g2, g3, g4, g5]
    clear c0 c2 c3 c4 c5 c6 c7 c8 c9 c10 c11 c12 c13
    have C1 : Hid (w1.cell? ⟨Q, 1, none⟩ = some (.int .i64 a.n)) := c1
    clear c1
    go_loopw [20] (fun t wr => ∃ i : Nat, (i : Int) ≤ max a.n 0 ∧ t = .int .i64 i ∧ wr.cell? ⟨Q, 1, none⟩ = some (.int .i64 a.n) ∧ ∃ y, NB w0 wr k r y (j + i) y (j + i)) (fun t _ => (max a.n 0).toNat - (intOf t).toNat)
    case atStart => exact ⟨0, by omega, rfl, C1.out, x, W1.out⟩
    case round =>
      obtain ⟨i, hi, rfl, cn, y, hn⟩ := hrel
      have NR : Hid (NB w0 wr k r y (j + i) y (j + i)) := hn
      have CN : Hid (wr.cell? ⟨Q, 1, none⟩ = some (.int .i64 a.n)) := cn
      have HI : Hid ((i : Int) ≤ max a.n 0) := hi
      clear hn hi
      by_cases hlt : (i : Int) < a.n
      · have HLT : Hid ((i : Int) < a.n) := hlt
        go_wp2_with fail
        refine (tick_p HS.out.mm NR.out (by have := HJ.out; have := HN.out; have := HLT.out; omega)).mono ?_
        rintro e w2 ⟨⟨v, rfl, nts⟩, n2, k2⟩
        have N2 : Hid (NB w0 w2 k r y.tick (j + i + 1) y (j + i)) := n2
        have K2 : Hid (w2.cell? ⟨Q, 1, none⟩ = some (.int .i64 a.n) ∧ NtsV w2 wr.heap.size y.tk1 y.tickL v) := ⟨k2.keeps HQ.out.1 CN.out, nts⟩
        obtain ⟨pp, pc, rfl, _⟩ := nts
        clear n2 k2 cn
        go_wp2_with fail
        refine (tick_d N2.out (by have := HJ.out; have := HN.out; have := HLT.out; omega)).mono ?_
        rintro e w3 ⟨⟨u, rfl, ntr⟩, n3, k3⟩
        have N3 : Hid (NB w0 w3 k r y.tick (j + i + 1) y.tick (j + i + 1)) := n3
        have P3 : Hid (NtsP w3 y (.slice pp y.tickL.length pc)) := (K2.out.2.chgL k3 (fun b hb => NR.out.rl b hb)).rd
        have C3 : Hid (w3.cell? ⟨Q, 1, none⟩ = some (.int .i64 a.n)) := k3.keeps HQ.out.2 K2.out.1
        obtain ⟨dp, dc, du, rfl, d1, d2⟩ := ntr
        have D3 : Hid (RdT w3 dp y.nfs du ∧ RdC w3 y.nfs du) := ⟨d1, d2⟩
        clear n3 k3 d1 d2
        obtain ⟨e1, he1⟩ : ∃ e1, y.tkE = e1 := ⟨_, rfl⟩
        have HE1 : Hid (y.tkE = e1 ∧ e1 ≤ 11) := ⟨he1, he1 ▸ tkE_le y⟩
        simp only [he1]
        clear he1
        go_wp2_with fail
        refine (coded2_any e1 HE1.out.2 _ s w3 (HS.out.below N3.out.bl)).mono ?_
        rintro e w4 ⟨rfl, hb4⟩
        have B4 : Hid (Below w3.heap.size w3 w4) := hb4
        have hee : ((e1 : Int) == (e1 : Int)) = true := beq_self_eq_true _
        rw [hee]
        clear hb4 hee
        obtain ⟨q1, qc, us, hq, a1, a2, a3, a4⟩ := P3.out
        have HLN : Hid (y.tickL.length = y.nfs.length) := by show _ = _; unfold No.nfs; rw [List.length_map]
        have hlen := HLN.out
        injection hq with e1' e2' e3'
        subst e1' e3'
        rw [hlen]
        have BA : Hid (RdT w3 pp y.nfs us ∧ RdC w3 y.nfs us ∧ us.length = y.nfs.length ∧ ∀ r ∈ nfR y.nfs us, Five r) := ⟨a1, a2, a3, a4⟩
        clear a1 a2 a3 a4 e2' hlen
        go_wp2_with fail
        refine (bnotes_any pp pc y.nfs us w4 (BA.out.1.below B4.out) BA.out.2.2.1 BA.out.2.2.2 (nfs_len y)).mono ?_
        rintro e w5 ⟨⟨p5, c5, rfl, r5⟩, hb5⟩
        have B5 : Hid (Below w3.heap.size w3 w5) := t2 B4.out hb5
        have R5 : Hid (RdT w5 p5 y.nfs us) := r5
        clear hb5 r5
        go_wp2_with fail
        refine (snotes_same p5 dp c5 dc y.nfs us du w5 R5.out (D3.out.1.below B5.out) (BA.out.2.1.below B5.out) (D3.out.2.below B5.out) (nfs_len y)).mono ?_
        rintro e w6 ⟨rfl, hb6⟩
        have B6 : Hid (Below w3.heap.size w3 w6) := t2 B5.out hb6
        clear hb6
        have hi1 : (i : Int) + 1 ≤ 9223372036854775807 := by have := HN.out; have := HLT.out; omega
        go_wp2_with fail
        go_roundw
        case rel => exact ⟨i + 1, by have := HLT.out; omega, by go_num, tk B6.out C3.out, y.tick, N3.out.below B6.out⟩
        case measure => simp [intOf]; have := HLT.out; omega
      · have HE : Hid ((i : Int) ≤ 1000) := by have := HI.out; have := HN.out; show (i : Int) ≤ 1000; omega
        go_wp2_with fail
        go_ret
        exact ⟨rfl, k, r, y, j + i, j + i, NR.out, by have := HE.out; omega, by have := HE.out; omega, rfl, rfl, rfl, rfl⟩
end Go.Proofs.YtifjoboaolpejaaGreatDoor
