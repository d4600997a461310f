/-
  A node in memory: ONE structure of all its blocks; all but some blocks as it was.
-/
import Derived.Test.YtjfhompbeengmaaDoorNoM
import Derived.Test.YtjfhompbeengmaaDoorKe
import Derived.Test.YtjfhompbeengmaaDoorKa
namespace Go.Proofs.YtjfhompbeengmaaDoor
open Go.RowKit

/-- all but these blocks is as it was. -/
structure ChgL (l : List Nat) (w w' : World) : Prop where
  os : w'.os = w.os
  tape : w'.tape = w.tape
  output : w'.output = w.output
  size : w.heap.size ≤ w'.heap.size
  block : ∀ k, k < w.heap.size → ¬ k ∈ l → w'.heap[k]? = w.heap[k]?
theorem ChgL.of {l : List Nat} {w w' : World} (h : Below w.heap.size w w') : ChgL l w w' := ⟨h.os, h.tape, h.output, h.size, fun k hk _ => h.block k hk⟩
theorem ChgL.refl (l : List Nat) (w : World) : ChgL l w w := ChgL.of (Below.refl _ _)
theorem ChgL.trans {l : List Nat} {u v w : World} (h : ChgL l u v) (k : ChgL l v w) : ChgL l u w :=
  ⟨k.os.trans h.os, k.tape.trans h.tape, k.output.trans h.output, Nat.le_trans h.size k.size, fun i hi hn => (k.block i (Nat.lt_of_lt_of_le hi h.size) hn).trans (h.block i hi hn)⟩
theorem ChgL.then {l : List Nat} {u v w : World} (h : ChgL l u v) (k : Below v.heap.size v w) : ChgL l u w := h.trans (ChgL.of k)
theorem ChgL.one {l : List Nat} {b : Nat} {w w' : World} (h : Chg b w w') (hb : b ∈ l) : ChgL l w w' :=
  ⟨h.os, h.tape, h.output, h.size, fun k hk hn => h.block k hk (fun e => hn (e ▸ hb))⟩
theorem ChgL.two {l : List Nat} {b c : Nat} {w w' : World} (h : Chg2 b c w w') (hb : b ∈ l) (hc : c ∈ l) : ChgL l w w' :=
  ⟨h.os, h.tape, h.output, h.size, fun k hk hn => h.block k hk (fun e => hn (e ▸ hb)) (fun e => hn (e ▸ hc))⟩
theorem ChgL.below {l : List Nat} {w0 w w' : World} (h : Below w0.heap.size w0 w) (k : ChgL l w w') (hb : ∀ b ∈ l, w0.heap.size ≤ b) : Below w0.heap.size w0 w' :=
  h.trans ⟨k.os, k.tape, k.output, k.size, fun i hi => k.block i (Nat.lt_of_lt_of_le hi h.size) (fun hm => by have := hb i hm; omega)⟩
theorem ChgL.keeps {l : List Nat} {w w' : World} (h : ChgL l w w') {a : Addr} {v : Value} (hn : ¬ a.block ∈ l) (hc : w.cell? a = some v) : w'.cell? a = some v := by
  rw [World.cell?_of_block (w := w) (h.block a.block (tlt hc) hn)]; exact hc
theorem ChgL.mono {l l' : List Nat} {w w' : World} (h : ChgL l w w') (hl : ∀ b ∈ l, b ∈ l' ∨ w.heap.size ≤ b) : ChgL l' w w' :=
  ⟨h.os, h.tape, h.output, h.size, fun k hk hn => h.block k hk (fun hm => by rcases hl k hm with h | h; exact hn h; omega)⟩

/-- the blocks of a node. -/
structure Bk where
  nd : Nat
  ro : Nat
  ce : Nat
  yb : Nat
  te : Nat
  tb : Nat
  mp : Nat
  mi : Nat
  rp : Option Addr
  rc : Nat
def Bk.all (k : Bk) : List Nat := [k.nd, k.ro, k.ce, k.yb, k.te, k.tb, k.mp, k.mi]
/-- no two are one. -/
structure Bk.Ds (k : Bk) : Prop where
  d1 : k.nd ≠ k.ro ∧ k.nd ≠ k.ce ∧ k.nd ≠ k.yb ∧ k.nd ≠ k.te ∧ k.nd ≠ k.tb ∧ k.nd ≠ k.mp ∧ k.nd ≠ k.mi
  d2 : k.ro ≠ k.ce ∧ k.ro ≠ k.yb ∧ k.ro ≠ k.te ∧ k.ro ≠ k.tb ∧ k.ro ≠ k.mp ∧ k.ro ≠ k.mi
  d3 : k.ce ≠ k.yb ∧ k.ce ≠ k.te ∧ k.ce ≠ k.tb ∧ k.ce ≠ k.mp ∧ k.ce ≠ k.mi
  d4 : k.yb ≠ k.te ∧ k.yb ≠ k.tb ∧ k.yb ≠ k.mp ∧ k.yb ≠ k.mi
  d5 : k.te ≠ k.tb ∧ k.te ≠ k.mp ∧ k.te ≠ k.mi
  d6 : k.tb ≠ k.mp ∧ k.tb ≠ k.mi ∧ k.mp ≠ k.mi
/-- a node's own block. -/
def NdB (w : World) (k : Bk) (id life now : Int) (n : Nat) : Prop := w.heap[k.nd]? = some (.cells #[.pointer (some ⟨k.ro, 0, none⟩), .int .i64 id, .int .i64 life, .int .i64 now, .slice k.rp n k.rc, .pointer (some ⟨k.ce, 0, none⟩), .pointer (some ⟨k.te, 0, none⟩), .pointer (some ⟨k.mi, 0, none⟩)] 52 (0, 0))
theorem NdB.lt {w : World} {k : Bk} {id life now : Int} {n : Nat} (h : NdB w k id life now n) : k.nd < w.heap.size := by
  rcases Nat.lt_or_ge k.nd w.heap.size with a | a
  · exact a
  · unfold NdB at h; rw [Array.getElem?_eq_none a] at h; cases h
theorem NdB.kept {w w' : World} {k : Bk} {id life now : Int} {n : Nat} (h : NdB w k id life now n) (e : w'.heap[k.nd]? = w.heap[k.nd]?) : NdB w' k id life now n := by unfold NdB; rw [e]; exact h
theorem NdB.c {w : World} {k : Bk} {id life now : Int} {n : Nat} (h : NdB w k id life now n) (i : Nat) : w.cell? ⟨k.nd, i, none⟩ = (#[.pointer (some ⟨k.ro, 0, none⟩), .int .i64 id, .int .i64 life, .int .i64 now, .slice k.rp n k.rc, .pointer (some ⟨k.ce, 0, none⟩), .pointer (some ⟨k.te, 0, none⟩), .pointer (some ⟨k.mi, 0, none⟩)] : Array Value)[i]? := cell_of_row w _ _ _ _ _ h
theorem NdB.fr {w : World} {k : Bk} {id life now : Int} {n : Nat} (h : NdB w k id life now n) (i : Nat) : w.frozen? ⟨k.nd, i, none⟩ = false := frozen_of_row w _ i _ _ h
theorem NdB.setNow {w : World} {k : Bk} {id life now : Int} {n : Nat} (h : NdB w k id life now n) (t : Int) : NdB (w.setCell ⟨k.nd, 3, none⟩ (.int .i64 t)) k id life t n := by unfold NdB; rw [heap_setCell_same w _ _ _ _ _ h]; rfl

theorem ToldM.keptL {w w' : World} {M n : Nat} {D : To} {l : List Nat} (h : ToldM w M n D) (c : ChgL l w w') (hn : ¬ M ∈ l) : ToldM w' M n D := by
  obtain ⟨d, e1, e2⟩ := h
  have hl := e1.lt
  obtain ⟨es, ck, a1, a2⟩ := e1
  exact ⟨d, ⟨es, ck, by rw [c.block M hl hn]; exact a1, a2⟩, e2⟩
theorem Rul.chg {w w' : World} {p : Option Addr} {l : List Rl} {b : Nat} (R : Rul w p l) (c : Chg b w w') (h : l ≠ [] → ∀ a, p = some a → a.block ≠ b) : Rul w' p l := fun i r hr => by
  have hne : l ≠ [] := by intro e; subst e; simp at hr
  obtain ⟨g, o, e, h0, h1, h2, h3, h4⟩ := R i r hr
  have hb := h hne _ e
  exact ⟨g, o, e, c.keeps hb h0, c.keeps hb h1, c.keeps hb h2, c.keeps hb h3, c.keeps hb h4⟩
theorem Rul.chg2 {w w' : World} {p : Option Addr} {l : List Rl} {b d : Nat} (R : Rul w p l) (c : Chg2 b d w w') (h : l ≠ [] → (∀ a, p = some a → a.block ≠ b) ∧ (∀ a, p = some a → a.block ≠ d)) : Rul w' p l := fun i r hr => by
  have hne : l ≠ [] := by intro e; subst e; simp at hr
  obtain ⟨g, o, e, h0, h1, h2, h3, h4⟩ := R i r hr
  have hb := (h hne).1 _ e
  have hd := (h hne).2 _ e
  exact ⟨g, o, e, c.keeps hb hd h0, c.keeps hb hd h1, c.keeps hb hd h2, c.keeps hb hd h3, c.keeps hb hd h4⟩

/-- a node in memory: all its blocks lie behind w0, and all of w0 is as it was; versions are at most m, the map was written n times. -/
structure Nd (w0 w : World) (k : Bk) (x : No) (m n : Nat) : Prop where
  nd : NdB w k x.id x.life x.now x.ru.length
  ro : Rol w k.ro x.ro
  rk : x.ro.Ok
  ce : Cel w k.ce k.yb x.off
  yb : Byt w k.yb x.y
  lf : x.y.left ≤ 9223372036854775807
  tb : Tab w k.tb x.low x.T
  vs : Vers x.T m
  wt : WfT x.T
  te : Tel w k.te k.tb k.mp n x.D x.cu
  mi : Mir w k.mi x.ml x.mt
  wm : WfT x.mt
  ru : Rul w k.rp x.ru
  ds : k.Ds
  g0 : ∀ b ∈ k.all, w0.heap.size ≤ b
  rb : x.ru ≠ [] → ∀ a, k.rp = some a → w0.heap.size ≤ a.block ∧ ¬ a.block ∈ k.all
  id : x.id = 0 ∨ x.id = 1
  bl : Below w0.heap.size w0 w
theorem Bk.m_nd (k : Bk) : k.nd ∈ k.all := by simp [Bk.all]
theorem Bk.m_ro (k : Bk) : k.ro ∈ k.all := by simp [Bk.all]
theorem Bk.m_ce (k : Bk) : k.ce ∈ k.all := by simp [Bk.all]
theorem Bk.m_yb (k : Bk) : k.yb ∈ k.all := by simp [Bk.all]
theorem Bk.m_te (k : Bk) : k.te ∈ k.all := by simp [Bk.all]
theorem Bk.m_tb (k : Bk) : k.tb ∈ k.all := by simp [Bk.all]
theorem Bk.m_mp (k : Bk) : k.mp ∈ k.all := by simp [Bk.all]
theorem Bk.m_mi (k : Bk) : k.mi ∈ k.all := by simp [Bk.all]
theorem Rul.kept {w w' : World} {p : Option Addr} {l : List Rl} (R : Rul w p l) (h : l ≠ [] → ∀ a, p = some a → w'.heap[a.block]? = w.heap[a.block]?) : Rul w' p l := by
  intro i r hr
  have hne : l ≠ [] := by intro e; subst e; simp at hr
  obtain ⟨b, o, e, h0, h1, h2, h3, h4⟩ := R i r hr
  have hb : w'.heap[b]? = w.heap[b]? := h hne _ e
  exact ⟨b, o, e, by rw [World.cell?_of_block (w := w) hb]; exact h0, by rw [World.cell?_of_block (w := w) hb]; exact h1, by rw [World.cell?_of_block (w := w) hb]; exact h2, by rw [World.cell?_of_block (w := w) hb]; exact h3, by rw [World.cell?_of_block (w := w) hb]; exact h4⟩
theorem Rol.kept {w w' : World} {b : Nat} {r : Ro} (h : Rol w b r) (e : w'.heap[b]? = w.heap[b]?) : Rol w' b r := by unfold Rol; rw [e]; exact h
theorem Cel.kept {w w' : World} {c b : Nat} {off : Bool} (h : Cel w c b off) (e : w'.heap[c]? = w.heap[c]?) : Cel w' c b off :=
  ⟨by rw [World.cell?_of_block (w := w) e]; exact h.c0, by rw [World.cell?_of_block (w := w) e]; exact h.c1, by rw [World.frozen?_of_block (w := w) e]; exact h.f1⟩
theorem Byt.kept {w w' : World} {b : Nat} {s : By} (h : Byt w b s) (e : w'.heap[b]? = w.heap[b]?) : Byt w' b s := ⟨by rw [e]; exact h.1, h.2⟩
theorem Tab.kept {w w' : World} {b : Nat} {low : Int} {T : Tb} (h : Tab w b low T) (e : w'.heap[b]? = w.heap[b]?) : Tab w' b low T := by unfold Tab; rw [e]; exact h
theorem Mir.kept {w w' : World} {b : Nat} {l : Int} {T : Tb} (h : Mir w b l T) (e : w'.heap[b]? = w.heap[b]?) : Mir w' b l T := by unfold Mir; rw [e]; exact h
/-- kept, where all its blocks are. -/
theorem Nd.kept {w0 w w' : World} {k : Bk} {x : No} {m n : Nat} (h : Nd w0 w k x m n) {l : List Nat} (c : ChgL l w w') (hl : ∀ b ∈ k.all, ¬ b ∈ l) (hr : x.ru ≠ [] → ∀ a, k.rp = some a → ¬ a.block ∈ l) (h0 : ∀ b ∈ l, w0.heap.size ≤ b) : Nd w0 w' k x m n where
  nd := h.nd.kept (c.block _ h.nd.lt (hl _ k.m_nd))
  ro := h.ro.kept (c.block _ h.ro.lt (hl _ k.m_ro))
  rk := h.rk
  ce := h.ce.kept (c.block _ h.ce.lt (hl _ k.m_ce))
  yb := h.yb.kept (c.block _ h.yb.lt (hl _ k.m_yb))
  lf := h.lf
  tb := h.tb.kept (c.block _ h.tb.lt (hl _ k.m_tb))
  vs := h.vs
  wt := h.wt
  te := by
    obtain ⟨q0, q1, q2, q3, q4, q5, q6⟩ := h.te
    have e := c.block k.te (tlt q0) (hl _ k.m_te)
    exact ⟨by rw [World.cell?_of_block (w := w) e]; exact q0, by rw [World.cell?_of_block (w := w) e]; exact q1, by rw [World.cell?_of_block (w := w) e]; exact q2, by rw [World.frozen?_of_block (w := w) e]; exact q3, q4.keptL c (hl _ k.m_mp), q5, q6⟩
  mi := h.mi.kept (c.block _ h.mi.lt (hl _ k.m_mi))
  wm := h.wm
  ru := h.ru.kept (fun hn a e => by
    rcases Nat.lt_or_ge a.block w.heap.size with q | q
    · exact c.block _ q (hr hn a e)
    · exfalso
      obtain ⟨r, hr'⟩ := List.exists_mem_of_ne_nil _ hn
      obtain ⟨i, hi⟩ := List.getElem?_of_mem hr'
      obtain ⟨b, o, e2, h0, _⟩ := h.ru i r hi
      rw [e] at e2
      cases e2
      have := tlt h0
      simp only at this q
      omega)
  ds := h.ds
  g0 := h.g0
  rb := h.rb
  id := h.id
  bl := ChgL.below h.bl c h0
theorem Nd.below {w0 w w' : World} {k : Bk} {x : No} {m n : Nat} (h : Nd w0 w k x m n) (c : Below w.heap.size w w') : Nd w0 w' k x m n :=
  h.kept (l := []) (ChgL.of c) (fun _ _ => by simp) (fun _ _ _ => by simp) (fun _ hb => by simp at hb)
theorem Nd.rlt {w0 w : World} {k : Bk} {x : No} {m n : Nat} (h : Nd w0 w k x m n) (hn : x.ru ≠ []) (b : Nat) (hb : b ∈ k.all) : ∀ a, k.rp = some a → a.block ≠ b := fun a e q => (h.rb hn a e).2 (q ▸ hb)
/-- the role changes. -/
theorem Nd.onRo {w0 w w' : World} {k : Bk} {x : No} {m n : Nat} (h : Nd w0 w k x m n) {r : Ro} (t : Rol w' k.ro r) (K : r.Ok) (c : Chg k.ro w w') : Nd w0 w' k { x with ro := r } m n where
  nd := h.nd.kept (c.block _ h.nd.lt (by have := h.ds.d1; omega))
  ro := t
  rk := K
  ce := h.ce.chg c (by have := h.ds.d2; omega)
  yb := h.yb.chg c (by have := h.ds.d2; omega)
  lf := h.lf
  tb := h.tb.chg c (by have := h.ds.d2; omega)
  vs := h.vs
  wt := h.wt
  te := h.te.chg c (by have := h.ds.d2; omega) (by have := h.ds.d2; omega)
  mi := h.mi.chg c (by have := h.ds.d2; omega)
  wm := h.wm
  ru := h.ru.chg c (fun hn => h.rlt hn _ k.m_ro)
  ds := h.ds
  g0 := h.g0
  rb := h.rb
  id := h.id
  bl := Chg.below h.bl c (h.g0 _ k.m_ro)
/-- the table changes. -/
theorem Nd.onTb {w0 w w' : World} {k : Bk} {x : No} {m n : Nat} (h : Nd w0 w k x m n) {T : Tb} {m' : Nat} (t : Tab w' k.tb x.low T) (v : Vers T m') (u : WfT T) (c : Chg k.tb w w') : Nd w0 w' k { x with T := T } m' n where
  nd := h.nd.kept (c.block _ h.nd.lt (by have := h.ds.d1; omega))
  ro := h.ro.chg c (by have := h.ds.d2; omega)
  rk := h.rk
  ce := h.ce.chg c (by have := h.ds.d3; omega)
  yb := h.yb.chg c (by have := h.ds.d4; omega)
  lf := h.lf
  tb := t
  vs := v
  wt := u
  te := h.te.chg c (by have := h.ds.d5; omega) (by have := h.ds.d6; omega)
  mi := h.mi.chg c (by have := h.ds.d6; omega)
  wm := h.wm
  ru := h.ru.chg c (fun hn => h.rlt hn _ k.m_tb)
  ds := h.ds
  g0 := h.g0
  rb := h.rb
  id := h.id
  bl := Chg.below h.bl c (h.g0 _ k.m_tb)
/-- the teller changes. -/
theorem Nd.onTe {w0 w w' : World} {k : Bk} {x : No} {m n : Nat} (h : Nd w0 w k x m n) {D : To} {cu n' : Nat} (t : Tel w' k.te k.tb k.mp n' D cu) (c : Chg2 k.te k.mp w w') : Nd w0 w' k { x with D := D, cu := cu } m n' where
  nd := h.nd.kept (c.block _ h.nd.lt (by have := h.ds.d1; omega) (by have := h.ds.d1; omega))
  ro := h.ro.kept (c.block _ h.ro.lt (by have := h.ds.d2; omega) (by have := h.ds.d2; omega))
  rk := h.rk
  ce := h.ce.kept (c.block _ h.ce.lt (by have := h.ds.d3; omega) (by have := h.ds.d3; omega))
  yb := h.yb.kept (c.block _ h.yb.lt (by have := h.ds.d4; omega) (by have := h.ds.d4; omega))
  lf := h.lf
  tb := h.tb.kept (c.block _ h.tb.lt (by have := h.ds.d5; omega) (by have := h.ds.d6; omega))
  vs := h.vs
  wt := h.wt
  te := t
  mi := h.mi.kept (c.block _ h.mi.lt (by have := h.ds.d5; omega) (by have := h.ds.d6; omega))
  wm := h.wm
  ru := (h.ru.chg2 c (fun hn => ⟨h.rlt hn _ k.m_te, h.rlt hn _ k.m_mp⟩))
  ds := h.ds
  g0 := h.g0
  rb := h.rb
  id := h.id
  bl := Chg2.below h.bl c (h.g0 _ k.m_te) (h.g0 _ k.m_mp)
/-- the cell and its bytes change. -/
theorem Nd.onCe {w0 w w' : World} {k : Bk} {x : No} {m n : Nat} (h : Nd w0 w k x m n) {s : By} {off : Bool} (t : Byt w' k.yb s) (u : Cel w' k.ce k.yb off) (hl : s.left ≤ 9223372036854775807) (c : Chg2 k.yb k.ce w w') : Nd w0 w' k { x with y := s, off := off } m n where
  nd := h.nd.kept (c.block _ h.nd.lt (by have := h.ds.d1; omega) (by have := h.ds.d1; omega))
  ro := h.ro.kept (c.block _ h.ro.lt (by have := h.ds.d2; omega) (by have := h.ds.d2; omega))
  rk := h.rk
  ce := u
  yb := t
  lf := hl
  tb := h.tb.kept (c.block _ h.tb.lt (by have := h.ds.d4; omega) (by have := h.ds.d3; omega))
  vs := h.vs
  wt := h.wt
  te := h.te.chg2 c (by have := h.ds.d4; omega) (by have := h.ds.d3; omega) (by have := h.ds.d4; omega) (by have := h.ds.d3; omega)
  mi := h.mi.kept (c.block _ h.mi.lt (by have := h.ds.d4; omega) (by have := h.ds.d3; omega))
  wm := h.wm
  ru := (h.ru.chg2 c (fun hn => ⟨h.rlt hn _ k.m_yb, h.rlt hn _ k.m_ce⟩))
  ds := h.ds
  g0 := h.g0
  rb := h.rb
  id := h.id
  bl := Chg2.below h.bl c (h.g0 _ k.m_yb) (h.g0 _ k.m_ce)
/-- the mirror changes. -/
theorem Nd.onMi {w0 w w' : World} {k : Bk} {x : No} {m n : Nat} (h : Nd w0 w k x m n) {l : Int} {T : Tb} (t : Mir w' k.mi l T) (u : WfT T) (c : Chg k.mi w w') : Nd w0 w' k { x with ml := l, mt := T } m n where
  nd := h.nd.kept (c.block _ h.nd.lt (by have := h.ds.d1; omega))
  ro := h.ro.chg c (by have := h.ds.d2; omega)
  rk := h.rk
  ce := h.ce.chg c (by have := h.ds.d3; omega)
  yb := h.yb.chg c (by have := h.ds.d4; omega)
  lf := h.lf
  tb := h.tb.chg c (by have := h.ds.d6; omega)
  vs := h.vs
  wt := h.wt
  te := h.te.chg c (by have := h.ds.d5; omega) (by have := h.ds.d6; omega)
  mi := t
  wm := u
  ru := h.ru.chg c (fun hn => h.rlt hn _ k.m_mi)
  ds := h.ds
  g0 := h.g0
  rb := h.rb
  id := h.id
  bl := Chg.below h.bl c (h.g0 _ k.m_mi)
/-- its tick changes. -/
theorem Nd.onNow {w0 w : World} {k : Bk} {x : No} {m n : Nat} (h : Nd w0 w k x m n) (t : Int) : Nd w0 (w.setCell ⟨k.nd, 3, none⟩ (.int .i64 t)) k { x with now := t } m n := by
  have c : Chg k.nd w (w.setCell ⟨k.nd, 3, none⟩ (.int .i64 t)) := Chg.set _ _ _ _
  exact {
    nd := h.nd.setNow t
    ro := h.ro.chg c (by have := h.ds.d1; omega)
    rk := h.rk
    ce := h.ce.chg c (by have := h.ds.d1; omega)
    yb := h.yb.chg c (by have := h.ds.d1; omega)
    lf := h.lf
    tb := h.tb.chg c (by have := h.ds.d1; omega)
    vs := h.vs
    wt := h.wt
    te := h.te.chg c (by have := h.ds.d1; omega) (by have := h.ds.d1; omega)
    mi := h.mi.chg c (by have := h.ds.d1; omega)
    wm := h.wm
    ru := h.ru.chg c (fun hn => h.rlt hn _ k.m_nd)
    ds := h.ds
    g0 := h.g0
    rb := h.rb
    id := h.id
    bl := Chg.below h.bl c (h.g0 _ k.m_nd) }
end Go.Proofs.YtjfhompbeengmaaDoor
