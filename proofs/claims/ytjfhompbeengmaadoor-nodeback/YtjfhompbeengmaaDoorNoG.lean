/-
  Package node's check, flow, step.
-/
import Derived.Test.YtjfhompbeengmaaDoorNoC
import Derived.Test.YtjfhompbeengmaaDoorKd
import Derived.Test.YtjfhompbeengmaaDoorKh
namespace Go.Proofs.YtjfhompbeengmaaDoor
open Go.RowKit

/-- the sentinels that a node's packets ask. -/
structure SeM (w : World) (s : Nat → Addr) : Prop where
  c1 : w.cell? ⟨0, 0, none⟩ = some (.iface 161 (.pointer (some (s 1))))
  c2 : w.cell? ⟨1, 0, none⟩ = some (.iface 161 (.pointer (some (s 2))))
  c3 : w.cell? ⟨2, 0, none⟩ = some (.iface 161 (.pointer (some (s 3))))
  c4 : w.cell? ⟨9, 0, none⟩ = some (.iface 161 (.pointer (some (s 4))))
  c5 : w.cell? ⟨5, 0, none⟩ = some (.iface 161 (.pointer (some (s 5))))
  c6 : w.cell? ⟨3, 0, none⟩ = some (.iface 161 (.pointer (some (s 6))))
  c7 : w.cell? ⟨8, 0, none⟩ = some (.iface 161 (.pointer (some (s 7))))
  c8 : w.cell? ⟨6, 0, none⟩ = some (.iface 161 (.pointer (some (s 8))))
  c9 : w.cell? ⟨4, 0, none⟩ = some (.iface 161 (.pointer (some (s 9))))
  c10 : w.cell? ⟨7, 0, none⟩ = some (.iface 161 (.pointer (some (s 10))))
theorem SeM.below {w w' : World} {s : Nat → Addr} (S : SeM w s) (hb : Below w.heap.size w w') : SeM w' s := ⟨tk hb S.c1, tk hb S.c2, tk hb S.c3, tk hb S.c4, tk hb S.c5, tk hb S.c6, tk hb S.c7, tk hb S.c8, tk hb S.c9, tk hb S.c10⟩
theorem SeM.n {w : World} {s : Nat → Addr} (S : SeM w s) : SeN w s := ⟨S.c1, S.c2, S.c4, S.c5, S.c6, S.c9, S.c10⟩
theorem SeM.s4 {w : World} {s : Nat → Addr} (S : SeM w s) : Se4 w s := ⟨S.c1, S.c3, S.c4, S.c5⟩
theorem errV_eq (s : Nat → Addr) (n : Nat) : errV s n = terr s n := by cases n <;> rfl

/-- a packet. -/
structure Pk where
  pr : Int
  a1 : Int
  p1 : Int
  a2 : Int
  p2 : Int
  fl : Int
abbrev Pk.v (p : Pk) : Value := .agg #[.int .i64 p.pr, .int .i64 p.a1, .int .i64 p.p1, .int .i64 p.a2, .int .i64 p.p2, .int .i64 p.fl]
def Pk.err (p : Pk) : Nat := pkErr p.pr p.a1 p.p1 p.a2 p.p2 p.fl
/-- what both ways ask first. -/
def No.chk (x : No) (p : Pk) : Nat := if p.err = 0 then (if x.ro.ac then 0 else 9) else p.err
set_option maxRecDepth 100000 in
set_option maxHeartbeats 2000000 in
theorem check_nd {w0 w : World} {k : Bk} {x : No} {m n : Nat} {s : Nat → Addr} (S : SeM w0 s) (h : Nd w0 w k x m n) (p : Pk) :
    Calls Tryd.prog 30 #[.pointer (some ⟨k.nd, 0, none⟩), p.v] w fun e w' => e = .returned (terr s (x.chk p)) ∧ Below w.heap.size w w' := by
  have HS : Hid (SeM w0 s) := S
  have HN : Hid (Nd w0 w k x m n) := h
  clear S h
  go_enter Tryd.func30, Tryd.ntmps30
  go_wp2_with fail
  have B1 : Hid (Below w.heap.size w (w.alloc (.cells #[.int .i64 p.pr, .int .i64 p.a1, .int .i64 p.p1, .int .i64 p.a2, .int .i64 p.p2, .int .i64 p.fl] 41))) := aB _ _
  generalize w.alloc (.cells #[.int .i64 p.pr, .int .i64 p.a1, .int .i64 p.p1, .int .i64 p.a2, .int .i64 p.p2, .int .i64 p.fl] 41) = w1 at *
  have HX : Hid (errV s (pkErr p.pr p.a1 p.p1 p.a2 p.p2 p.fl) = terr s p.err) := errV_eq s _
  refine (check_any p.pr p.a1 p.p1 p.a2 p.p2 p.fl s w1 (HS.out.below (t2 HN.out.bl B1.out)).n.sn).mono ?_
  rintro e w2 ⟨rfl, hb2⟩
  have B2 : Hid (Below w.heap.size w w2) := t2 B1.out hb2
  have N2 : Hid (Nd w0 w2 k x m n) := HN.out.below B2.out
  have S2 : Hid (SeM w2 s) := HS.out.below N2.out.bl
  rw [HX.out]
  clear hb2 HX B1
  by_cases he : p.err = 0
  · have c0 := N2.out.c0
    rw [he]
    simp only [terr]
    go_wp2_with fail
    refine (active_any k.ro x.ro w2 N2.out.ro).mono ?_
    rintro e w3 ⟨rfl, hw⟩
    obtain rfl := hw.symm
    clear hw
    cases ha : x.ro.ac
    · have HC : Hid (x.chk p = 9) := by show _ = _; unfold No.chk; rw [if_pos he, ha]; rfl
      have s8 := S2.out.c8
      clear he ha
      go_wp2_with fail
      go_ret
      exact ⟨by rw [HC.out]; rfl, B2.out⟩
    · have HC : Hid (x.chk p = 0) := by show _ = _; unfold No.chk; rw [if_pos he, ha]; rfl
      clear he ha
      go_wp2_with fail
      go_ret
      exact ⟨by rw [HC.out]; rfl, B2.out⟩
  · have HC : Hid (x.chk p = p.err) := by show _ = _; unfold No.chk; rw [if_neg he]
    obtain ⟨e1, he1⟩ : ∃ e1, p.err = e1 + 1 := ⟨p.err - 1, by omega⟩
    rw [he1] at HC ⊢
    clear he he1
    simp only [terr]
    go_wp2_with fail
    go_ret
    exact ⟨by rw [HC.out]; rfl, B2.out⟩
/-- a flow's own block. -/
def FlZ (w : World) (Q : Nat) (c : Ce) : Prop := w.heap[Q]? = some (.cells #[.int .i64 c.pr, .int .i64 c.ia, .int .i64 c.ip, .int .i64 c.fa, .int .i64 c.fp, .int .i64 c.po, .int .i64 c.st, .int .i64 c.un] 77 (0, 0))
theorem FlZ.lt {w : World} {Q : Nat} {c : Ce} (h : FlZ w Q c) : Q < w.heap.size := by
  rcases Nat.lt_or_ge Q w.heap.size with a | a
  · exact a
  · unfold FlZ at h; rw [Array.getElem?_eq_none a] at h; cases h
theorem FlZ.below {w w' : World} {Q : Nat} {c : Ce} (h : FlZ w Q c) (hb : Below w.heap.size w w') : FlZ w' Q c := by unfold FlZ; rw [hb.block Q h.lt]; exact h
theorem FlZ.chgL {w w' : World} {Q : Nat} {c : Ce} {l : List Nat} (h : FlZ w Q c) (hb : ChgL l w w') (hn : ¬ Q ∈ l) : FlZ w' Q c := by unfold FlZ; rw [hb.block Q h.lt hn]; exact h
theorem FlZ.b {w : World} {Q : Nat} {c : Ce} (h : FlZ w Q c) : FlB w Q c := ⟨(cell_of_row w _ _ _ _ _ h).trans rfl, (cell_of_row w _ _ _ _ _ h).trans rfl, (cell_of_row w _ _ _ _ _ h).trans rfl, (cell_of_row w _ _ _ _ _ h).trans rfl, (cell_of_row w _ _ _ _ _ h).trans rfl, (cell_of_row w _ _ _ _ _ h).trans rfl, (cell_of_row w _ _ _ _ _ h).trans rfl, (cell_of_row w _ _ _ _ _ h).trans rfl⟩
theorem FlZ.fr {w : World} {Q : Nat} {c : Ce} (h : FlZ w Q c) (i : Nat) : w.frozen? ⟨Q, i, none⟩ = false := frozen_of_row w _ i _ _ h
theorem FlZ.new (w : World) (c : Ce) : FlZ (w.alloc (.cells #[.int .i64 c.pr, .int .i64 c.ia, .int .i64 c.ip, .int .i64 c.fa, .int .i64 c.fp, .int .i64 c.po, .int .i64 c.st, .int .i64 c.un] 77)) w.heap.size c := heap_alloc_new w _
theorem FlZ.zero (w : World) : FlZ (w.alloc (.cells #[.int .i64 0, .int .i64 0, .int .i64 0, .int .i64 0, .int .i64 0, .int .i64 0, .int .i64 0, .int .i64 0] 77)) w.heap.size noC := heap_alloc_new w _
theorem flz_store {w : World} {Q : Nat} {c : Ce} (h : FlZ w Q c) (d : Ce) :
    ∃ w', (Instr.storeAt 77 (.pointer (some ⟨Q, 0, none⟩)) (.agg #[.int .i64 d.pr, .int .i64 d.ia, .int .i64 d.ip, .int .i64 d.fa, .int .i64 d.fp, .int .i64 d.po, .int .i64 d.st, .int .i64 d.un])).run Tryd.prog w = .ok () w' ∧ FlZ w' Q d ∧ Chg Q w w' := by
  have hs : (sizeOf 77).run Tryd.prog w = .ok 8 w := by kernel_rfl
  have hst := run_storeCells_at Tryd.prog Q 0 77 (flC d) 0 _ w h (by simp [flC]) (fun u hu => by
    simp only [flC, List.mem_cons, List.not_mem_nil, or_false] at hu
    rcases hu with rfl | rfl | rfl | rfl | rfl | rfl | rfl | rfl <;> rfl)
  refine ⟨w.setRow Q #[.int .i64 d.pr, .int .i64 d.ia, .int .i64 d.ip, .int .i64 d.fa, .int .i64 d.fp, .int .i64 d.po, .int .i64 d.st, .int .i64 d.un], ?_, setRow_heap w Q _ _ _ _ h, chg_row _ _ _⟩
  simp only [Instr.storeAt, Instr.sureAddr, Sem.run_bind, Sem.run_pure, Result.andThen_ok, storeVar, hs, Value.cells]
  simp [flC] at hst ⊢
  exact hst
set_option maxRecDepth 100000 in
set_option maxHeartbeats 2000000 in
theorem flow_nd {w0 w : World} {k : Bk} {x : No} {m n : Nat} (h : Nd w0 w k x m n) (j : Nat) (hj : j < 32) :
    Calls Tryd.prog 52 #[.pointer (some ⟨k.nd, 0, none⟩), .int .i64 j] w fun e w' => e = .returned (flowV (x.T j)) ∧ Below w.heap.size w w' := by
  have HN : Hid (Nd w0 w k x m n) := h
  have c6 : (w.alloc (.cells #[.int .i64 0, .int .i64 0, .int .i64 0, .int .i64 0, .int .i64 0, .int .i64 0, .int .i64 0, .int .i64 0] 77)).cell? ⟨k.nd, 6, none⟩ = some (.pointer (some ⟨k.te, 0, none⟩)) := (h.below (aB _ _)).c6
  have t0 : (w.alloc (.cells #[.int .i64 0, .int .i64 0, .int .i64 0, .int .i64 0, .int .i64 0, .int .i64 0, .int .i64 0, .int .i64 0] 77)).cell? ⟨k.te, 0, none⟩ = some (.pointer (some ⟨k.tb, 0, none⟩)) := (h.below (aB _ _)).t0
  clear h
  go_enter Tryd.func52, Tryd.ntmps52
  go_wp2_with fail
  clear c6 t0
  have Z1 := FlZ.zero w
  have B1 : Hid (Below w.heap.size w (w.alloc (.cells #[.int .i64 0, .int .i64 0, .int .i64 0, .int .i64 0, .int .i64 0, .int .i64 0, .int .i64 0, .int .i64 0] 77))) := aB _ _
  generalize w.alloc (.cells #[.int .i64 0, .int .i64 0, .int .i64 0, .int .i64 0, .int .i64 0, .int .i64 0, .int .i64 0, .int .i64 0] 77) = w1 at *
  refine (get_ok k.tb x.low x.T j w1 (HN.out.below B1.out).tb hj).mono ?_
  rintro e w2 ⟨rfl, hb2⟩
  have Z2 : Hid (FlZ w2 w.heap.size noC) := Z1.below hb2
  have B2 : Hid (Below w.heap.size w w2) := t2 B1.out hb2
  clear hb2 Z1 B1
  obtain ⟨c, hc⟩ : ∃ c, x.T j = c := ⟨_, rfl⟩
  have HCC : Hid (x.T j = c) := hc
  rw [hc]
  clear hc
  simp only [cellV]
  obtain ⟨w3, hst, hz3, hc3⟩ := flz_store (Z2.out.below (aB w2 (.cells #[.int .i64 j, .int .i64 c.ve, .int .i64 c.pr, .int .i64 c.ia, .int .i64 c.ip, .int .i64 c.fa, .int .i64 c.fp, .int .i64 c.po, .int .i64 c.st, .int .i64 c.un] 86))) c
  have B3 : Hid (Below w.heap.size w w3) := Chg.below (t2 B2.out (aB _ _)) hc3 (Nat.le_refl _)
  have Z3 : Hid (FlZ w3 w.heap.size c) := hz3
  clear hz3 hc3
  go_wp2_with (refine wpList_store_eq rfl 77 _ _ rfl _ _ _ rfl rfl hst ?_)
  clear hst
  have q := Z3.out.b
  go_wp2_with fail
  exact bodyPost_ret (v := flowV c) (by simp [results, Tryd.results52, go_sem, q.c0, q.c1, q.c2, q.c3, q.c4, q.c5, q.c6, q.c7, flowV]) rfl ⟨by rw [HCC.out], B3.out⟩
end Go.Proofs.YtjfhompbeengmaaDoor
