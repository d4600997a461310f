/-
  Texts in one: RnA RnB RnF RnG.
-/
import Derived.Test.YtifjoboaolpejaaGreatDoorNoA
import Derived.Test.YtifjoboaolpejaaGreatDoorLa
import Derived.Test.YtifjoboaolpejaaGreatDoorLb
import Derived.Test.YtifjoboaolpejaaGreatDoorLc
import Derived.Test.YtifjoboaolpejaaGreatDoorLd
import Derived.Test.YtifjoboaolpejaaGreatDoorTsB
import Derived.Test.YtifjoboaolpejaaGreatDoorKi
import Derived.Test.YtifjoboaolpejaaGreatDoorNoV
namespace Go.Proofs.YtifjoboaolpejaaGreatDoor
open Go.RowKit

/-- its blocks. -/
structure RBk where
  nd : Nat
  ce : Nat
  yb : Nat
  ro : Nat
  tb : Nat
  tg : Nat
  te : Nat
  th : Nat
  mi : Nat
  mg : Nat
  tc : Nat
  mc : Nat
  rp : Option Addr
  rc : Nat
def RBk.all (r : RBk) : List Nat := [r.nd, r.ce, r.yb, r.ro, r.tb, r.tg, r.te, r.th, r.mi, r.mg]
/-- its own block. -/
structure RNdB (w : World) (r : RBk) (id now : Int) (n : Nat) : Prop where
  b0 : w.cell? ⟨r.nd, 0, none⟩ = some (.int .i64 id)
  b1 : w.cell? ⟨r.nd, 1, none⟩ = some (.int .i64 now)
  b2 : w.cell? ⟨r.nd, 2, none⟩ = some (.pointer (some ⟨r.ce, 0, none⟩))
  b3 : w.cell? ⟨r.nd, 3, none⟩ = some (.pointer (some ⟨r.ro, 0, none⟩))
  b4 : w.cell? ⟨r.nd, 4, none⟩ = some (.pointer (some ⟨r.tb, 0, none⟩))
  b5 : w.cell? ⟨r.nd, 5, none⟩ = some (.pointer (some ⟨r.te, 0, none⟩))
  b6 : w.cell? ⟨r.nd, 6, none⟩ = some (.pointer (some ⟨r.mi, 0, none⟩))
  b7 : w.cell? ⟨r.nd, 7, none⟩ = some (.slice r.rp n r.rc)
  fr : ∀ j, j < 8 → w.frozen? ⟨r.nd, j, none⟩ = false
/-- the document's node. -/
structure RNd (w0 w : World) (r : RBk) (x : No) (q : Ro) (lo i : Int) (m : Nat) : Prop where
  nd : RNdB w r x.id x.now x.ru.length
  ro : RRol w r.ro q
  sm : Sam x.ro q i
  yb : ∃ lv, RBy w r.yb x.y lv ∧ (x.y.cut = true → lv = x.y.left) ∧ lo ≤ lv ∧ lv ≤ 9223372036854775807
  ce : RCe w r.ce r.yb (newest x.y.B) x.off
  lf : x.life = ((newest x.y.B).l : Int)
  len : x.y.B.length = 64
  tb : RTab w r.tb r.tg r.tc x.low x.T
  vs : Vers x.T m
  te : RTel w r.te r.tb r.th x.D x.cu
  cu : x.cu < 32
  mi : RMir w r.mi r.mg r.mc x.ml x.mt
  ru : Rul w r.rp x.ru
  rl : x.ru.length ≤ 1000
  rb : x.ru ≠ [] → ∀ a, r.rp = some a → a.block < w0.heap.size
  ds : r.all.Nodup
  g0 : ∀ b ∈ r.all, w0.heap.size ≤ b
  id : x.id = 0 ∨ x.id = 1
  bl : Below w0.heap.size w0 w
theorem RNdB.kept {w w' : World} {r : RBk} {id now : Int} {n : Nat} (h : RNdB w r id now n) (e : w'.heap[r.nd]? = w.heap[r.nd]?) : RNdB w' r id now n := by
  have c : ∀ j, w'.cell? ⟨r.nd, j, none⟩ = w.cell? ⟨r.nd, j, none⟩ := fun j => World.cell?_of_block (w := w) e
  exact ⟨(c 0).trans h.b0, (c 1).trans h.b1, (c 2).trans h.b2, (c 3).trans h.b3, (c 4).trans h.b4, (c 5).trans h.b5, (c 6).trans h.b6, (c 7).trans h.b7, fun j hj => by rw [World.frozen?_of_block (w := w) e]; exact h.fr j hj⟩
theorem RTab.keptB {w w' : World} {m g cap : Nat} {low : Int} {T : Tb} (h : RTab w m g cap low T) (e : w'.heap[m]? = w.heap[m]?) (e2 : w'.heap[g]? = w.heap[g]?) : RTab w' m g cap low T :=
  ⟨by rw [World.cell?_of_block (w := w) e]; exact h.c0, by rw [World.cell?_of_block (w := w) e]; exact h.c1, by obtain ⟨cs, ty, a, b⟩ := h.sl; exact ⟨cs, ty, by rw [e2]; exact a, b⟩, h.ne⟩
theorem RTel.keptB {w w' : World} {y m g : Nat} {D : To} {c : Nat} (h : RTel w y m g D c) (e : w'.heap[y]? = w.heap[y]?) (e2 : w'.heap[g]? = w.heap[g]?) : RTel w' y m g D c :=
  ⟨by rw [World.cell?_of_block (w := w) e]; exact h.c0, by rw [World.cell?_of_block (w := w) e]; exact h.c1, by rw [World.cell?_of_block (w := w) e]; exact h.c2, by rw [World.frozen?_of_block (w := w) e]; exact h.f2, by obtain ⟨ty, a⟩ := h.a; exact ⟨ty, by rw [e2]; exact a⟩, h.ne, h.lt⟩
theorem RMir.keptB {w w' : World} {m g cap : Nat} {life : Int} {T : Tb} (h : RMir w m g cap life T) (e : w'.heap[m]? = w.heap[m]?) (e2 : w'.heap[g]? = w.heap[g]?) : RMir w' m g cap life T :=
  ⟨by rw [World.cell?_of_block (w := w) e]; exact h.c0, by rw [World.cell?_of_block (w := w) e]; exact h.c1, by rw [World.frozen?_of_block (w := w) e]; exact h.f0, by rw [World.frozen?_of_block (w := w) e]; exact h.f1, by obtain ⟨cs, ty, a, b⟩ := h.sl; exact ⟨cs, ty, by rw [e2]; exact a, b⟩, h.ne⟩
theorem RBk.mem {r : RBk} {b : Nat} (h : b = r.nd ∨ b = r.ce ∨ b = r.yb ∨ b = r.ro ∨ b = r.tb ∨ b = r.tg ∨ b = r.te ∨ b = r.th ∨ b = r.mi ∨ b = r.mg) : b ∈ r.all := by
  unfold RBk.all
  rcases h with rfl | rfl | rfl | rfl | rfl | rfl | rfl | rfl | rfl | rfl <;> simp
theorem RBk.m_nd (r : RBk) : r.nd ∈ r.all := by simp [RBk.all]
theorem RBk.m_ce (r : RBk) : r.ce ∈ r.all := by simp [RBk.all]
theorem RBk.m_yb (r : RBk) : r.yb ∈ r.all := by simp [RBk.all]
theorem RBk.m_ro (r : RBk) : r.ro ∈ r.all := by simp [RBk.all]
theorem RBk.m_tb (r : RBk) : r.tb ∈ r.all := by simp [RBk.all]
theorem RBk.m_tg (r : RBk) : r.tg ∈ r.all := by simp [RBk.all]
theorem RBk.m_te (r : RBk) : r.te ∈ r.all := by simp [RBk.all]
theorem RBk.m_th (r : RBk) : r.th ∈ r.all := by simp [RBk.all]
theorem RBk.m_mi (r : RBk) : r.mi ∈ r.all := by simp [RBk.all]
theorem RBk.m_mg (r : RBk) : r.mg ∈ r.all := by simp [RBk.all]
section
variable {w0 w w' : World} {r : RBk} {x : No} {q : Ro} {lo i : Int} {m : Nat}
theorem cell_ltB {w : World} {a : Addr} {v : Value} (h : w.cell? a = some v) : a.block < w.heap.size := tlt h
theorem RNd.blk (h : RNd w0 w r x q lo i m) : ∀ b ∈ r.all, b < w.heap.size := fun b hb => by
  unfold RBk.all at hb
  simp only [List.mem_cons, List.not_mem_nil, or_false] at hb
  obtain ⟨lv, hy, _⟩ := h.yb
  rcases hb with rfl | rfl | rfl | rfl | rfl | rfl | rfl | rfl | rfl | rfl
  · exact tlt h.nd.b0
  · exact h.ce.lt
  · exact hy.lt
  · exact h.ro.lt
  · exact tlt h.tb.c0
  · exact tlt (h.tb.sl.at' (i := 0) (k := 0) (by omega) (by omega))
  · exact tlt h.te.c0
  · exact tlt (h.te.a.at' (k := 0) (by omega))
  · exact tlt h.mi.c0
  · exact tlt (h.mi.sl.at' (i := 0) (k := 0) (by omega) (by omega))
/-- kept, where all its blocks are. -/
theorem RNd.kept (h : RNd w0 w r x q lo i m) {l : List Nat} (c : ChgL l w w') (hl : ∀ b ∈ r.all, ¬ b ∈ l) (h0 : ∀ b ∈ l, w0.heap.size ≤ b) : RNd w0 w' r x q lo i m := by
  have e : ∀ b ∈ r.all, w'.heap[b]? = w.heap[b]? := fun b hb => c.block b (h.blk b hb) (hl b hb)
  obtain ⟨lv, hy, hy1, hy2, hy3⟩ := h.yb
  have hsz := h.bl.size
  have hbl : Below w0.heap.size w0 w' := ⟨c.os.trans h.bl.os, c.tape.trans h.bl.tape, c.output.trans h.bl.output, Nat.le_trans hsz c.size, fun k hk => (c.block k (by omega) (fun hm => by have := h0 k hm; omega)).trans (h.bl.block k hk)⟩
  refine { h with nd := h.nd.kept (e _ r.m_nd), ro := ?_, yb := ⟨lv, ?_, hy1, hy2, hy3⟩, ce := ?_, tb := h.tb.keptB (e _ r.m_tb) (e _ r.m_tg), te := h.te.keptB (e _ r.m_te) (e _ r.m_th), mi := h.mi.keptB (e _ r.m_mi) (e _ r.m_mg), ru := ?_, bl := hbl }
  · unfold RRol; rw [e _ r.m_ro]; exact h.ro
  · unfold RBy; rw [e _ r.m_yb]; exact hy
  · unfold RCe; rw [e _ r.m_ce]; exact h.ce
  · refine h.ru.kept (fun hne a ha => ?_)
    have hlt := h.rb hne a ha
    exact c.block _ (by omega) (fun hm => by have := h0 _ hm; omega)
theorem RNd.below (h : RNd w0 w r x q lo i m) (hb : Below w.heap.size w w') : RNd w0 w' r x q lo i m :=
  h.kept (l := []) (ChgL.of hb) (fun _ _ hm => by cases hm) (fun _ hm => by cases hm)
end
end Go.Proofs.YtifjoboaolpejaaGreatDoor

namespace Go.Proofs.YtifjoboaolpejaaGreatDoor
open Go.RowKit

theorem RBk.df {r : RBk} (d : r.all.Nodup) (i j : Nat) {a b : Nat} (ha : r.all[i]? = some a) (hb : r.all[j]? = some b) (hij : i ≠ j) : a ≠ b := fun e => by
  subst e
  have hi : i < r.all.length := (List.getElem?_eq_some_iff.1 ha).1
  exact hij ((List.getElem?_inj hi d).1 (ha.trans hb.symm))
section
variable {w0 w w' : World} {r : RBk} {x : No} {q : Ro} {lo i : Int} {m : Nat}
theorem RNd.bl' (h : RNd w0 w r x q lo i m) {l : List Nat} (c : ChgL l w w') (h0 : ∀ b ∈ l, w0.heap.size ≤ b) : Below w0.heap.size w0 w' :=
  ⟨c.os.trans h.bl.os, c.tape.trans h.bl.tape, c.output.trans h.bl.output, Nat.le_trans h.bl.size c.size, fun k hk => (c.block k (by have := h.bl.size; omega) (fun hm => by have := h0 k hm; omega)).trans (h.bl.block k hk)⟩
theorem RNd.ru' (h : RNd w0 w r x q lo i m) {l : List Nat} (c : ChgL l w w') (h0 : ∀ b ∈ l, w0.heap.size ≤ b) : Rul w' r.rp x.ru :=
  h.ru.kept (fun hne a ha => c.block _ (by have := h.rb hne a ha; have := h.bl.size; omega) (fun hm => by have := h0 _ hm; have := h.rb hne a ha; omega))
/-- its table is another one. -/
theorem RNd.onTb (h : RNd w0 w r x q lo i m) {T' : Tb} {m' : Nat} (t : RTab w' r.tb r.tg r.tc x.low T') (v : Vers T' m') (c : Chg r.tg w w') : RNd w0 w' r { x with T := T' } q lo i m' := by
  have cl : ChgL [r.tg] w w' := ChgL.one c (by simp)
  have h0 : ∀ b ∈ [r.tg], w0.heap.size ≤ b := fun b hb => by rw [List.mem_singleton.1 hb]; exact h.g0 _ r.m_tg
  have e : ∀ (j : Nat) (b : Nat), r.all[j]? = some b → j ≠ 5 → w'.heap[b]? = w.heap[b]? := fun j b hb hj => c.block b (h.blk b (List.mem_of_getElem? hb)) (RBk.df h.ds j 5 hb rfl hj)
  obtain ⟨lv, hy, hy1, hy2, hy3⟩ := h.yb
  refine ⟨h.nd.kept (e 0 _ rfl (by omega)), ?_, h.sm, ⟨lv, ?_, hy1, hy2, hy3⟩, ?_, h.lf, h.len, t, v, h.te.keptB (e 6 _ rfl (by omega)) (e 7 _ rfl (by omega)), h.cu, h.mi.keptB (e 8 _ rfl (by omega)) (e 9 _ rfl (by omega)), h.ru' cl h0, h.rl, h.rb, h.ds, h.g0, h.id, h.bl' cl h0⟩
  · unfold RRol; rw [e 3 _ rfl (by omega)]; exact h.ro
  · unfold RBy; rw [e 2 _ rfl (by omega)]; exact hy
  · unfold RCe; rw [e 1 _ rfl (by omega)]; exact h.ce
theorem rset_rn (h : RNd w0 w r x q lo i m) (hm : m ≤ 1000000000) (j st un : Int) :
    Calls Tryz.prog 123 #[.pointer (some ⟨r.tb, 0, none⟩), .int .i64 j, .int .i64 st, .int .i64 un] w fun e w' => (∃ v, e = .returned v) ∧ RNd w0 w' r { x with T := setT x.T j st un } q lo i (m + 1) ∧ ChgL r.all w w' := by
  refine (setR_any r.tb r.tg r.tc x.low x.T j st un m w h.tb h.vs hm).mono ?_
  rintro e w' ⟨rfl, t, g⟩
  exact ⟨⟨_, rfl⟩, h.onTb t (h.vs.set _ _ _) g, ChgL.one g r.m_tg⟩
theorem rdrop_rn (h : RNd w0 w r x q lo i m) (hm : m ≤ 1000000000) (j : Int) :
    Calls Tryz.prog 122 #[.pointer (some ⟨r.tb, 0, none⟩), .int .i64 j] w fun e w' => (∃ v, e = .returned v) ∧ RNd w0 w' r { x with T := dropT x.T j } q lo i (m + 1) ∧ ChgL r.all w w' := by
  refine (dropR_any r.tb r.tg r.tc x.low x.T j m w h.tb h.vs hm).mono ?_
  rintro e w' ⟨rfl, t, g⟩
  exact ⟨⟨_, rfl⟩, h.onTb t (h.vs.drop _) g, ChgL.one g r.m_tg⟩
theorem rfind_rn (h : RNd w0 w r x q lo i m) (pr ia ip fa fp : Int) :
    Calls Tryz.prog 75 #[.pointer (some ⟨r.tb, 0, none⟩), .int .i64 pr, .agg #[.int .i64 ia, .int .i64 ip], .agg #[.int .i64 fa, .int .i64 fp]] w fun e w' => e = .returned (.int .i64 (foundI (fst x.T (findQ pr ia ip fa fp)))) ∧ Below w.heap.size w w' :=
  findR_any r.tb r.tg r.tc x.low x.T pr ia ip fa fp w h.tb
theorem rback_rn (h : RNd w0 w r x q lo i m) (pr po fa fp : Int) :
    Calls Tryz.prog 83 #[.pointer (some ⟨r.tb, 0, none⟩), .int .i64 pr, .int .i64 po, .agg #[.int .i64 fa, .int .i64 fp]] w fun e w' => e = .returned (.int .i64 (foundI (fst x.T (backQ pr po fa fp)))) ∧ Below w.heap.size w w' :=
  backR_any r.tb r.tg r.tc x.low x.T pr po fa fp w h.tb
end
end Go.Proofs.YtifjoboaolpejaaGreatDoor

namespace Go.Proofs.YtifjoboaolpejaaGreatDoor
open Go.RowKit

section
variable {w0 w w' : World} {r : RBk} {x : No} {q : Ro} {lo i : Int} {m : Nat}
def RBk.pre (r : RBk) : List Nat := [r.nd, r.ce, r.yb, r.ro, r.tb, r.tg, r.te, r.th, r.mi]
theorem RBk.all_pre (r : RBk) : r.all = r.pre ++ [r.mg] := rfl
/-- its role is another one. -/
theorem RNd.onRo (h : RNd w0 w r x q lo i m) {ro' q' : Ro} {i' : Int} (t : RRol w' r.ro q') (s : Sam ro' q' i') (c : Chg r.ro w w') : RNd w0 w' r { x with ro := ro' } q' lo i' m := by
  have cl : ChgL [r.ro] w w' := ChgL.one c (by simp)
  have h0 : ∀ b ∈ [r.ro], w0.heap.size ≤ b := fun b hb => by rw [List.mem_singleton.1 hb]; exact h.g0 _ r.m_ro
  have e : ∀ (j : Nat) (b : Nat), r.all[j]? = some b → j ≠ 3 → w'.heap[b]? = w.heap[b]? := fun j b hb hj => c.block b (h.blk b (List.mem_of_getElem? hb)) (RBk.df h.ds j 3 hb rfl hj)
  obtain ⟨lv, hy, hy1, hy2, hy3⟩ := h.yb
  refine ⟨h.nd.kept (e 0 _ rfl (by omega)), t, s, ⟨lv, ?_, hy1, hy2, hy3⟩, ?_, h.lf, h.len, h.tb.keptB (e 4 _ rfl (by omega)) (e 5 _ rfl (by omega)), h.vs, h.te.keptB (e 6 _ rfl (by omega)) (e 7 _ rfl (by omega)), h.cu, h.mi.keptB (e 8 _ rfl (by omega)) (e 9 _ rfl (by omega)), h.ru' cl h0, h.rl, h.rb, h.ds, h.g0, h.id, h.bl' cl h0⟩
  · unfold RBy; rw [e 2 _ rfl (by omega)]; exact hy
  · unfold RCe; rw [e 1 _ rfl (by omega)]; exact h.ce
/-- its mirror is another one. -/
theorem RNd.onMi (h : RNd w0 w r x q lo i m) {life : Int} {T' : Tb} {g' cap' : Nat} (t : RMir w' r.mi g' cap' life T') (hg : g' = r.mg ∨ w.heap.size ≤ g') (c : Chg2 r.mi r.mg w w') : RNd w0 w' { r with mg := g', mc := cap' } { x with ml := life, mt := T' } q lo i m ∧ ChgL r.all w w' := by
  have cl : ChgL [r.mi, r.mg] w w' := ⟨c.os, c.tape, c.output, c.size, fun k hk hn => c.block k hk (fun e => hn (by simp [e])) (fun e => hn (by simp [e]))⟩
  have h0 : ∀ b ∈ [r.mi, r.mg], w0.heap.size ≤ b := fun b hb => by
    simp only [List.mem_cons, List.not_mem_nil, or_false] at hb
    rcases hb with rfl | rfl
    · exact h.g0 _ r.m_mi
    · exact h.g0 _ r.m_mg
  have e : ∀ (j : Nat) (b : Nat), r.all[j]? = some b → j ≠ 8 → j ≠ 9 → w'.heap[b]? = w.heap[b]? := fun j b hb h8 h9 => c.block b (h.blk b (List.mem_of_getElem? hb)) (RBk.df h.ds j 8 hb rfl h8) (RBk.df h.ds j 9 hb rfl h9)
  obtain ⟨lv, hy, hy1, hy2, hy3⟩ := h.yb
  have hds : ({ r with mg := g', mc := cap' } : RBk).all.Nodup := by
    have d := h.ds
    rw [RBk.all_pre] at d ⊢
    show (r.pre ++ [g']).Nodup
    rcases hg with rfl | hg
    · exact d
    · rw [List.nodup_append] at d ⊢
      refine ⟨d.1, by simp, fun a ha b hb => ?_⟩
      rw [List.mem_singleton.1 hb]
      have : a < w.heap.size := h.blk a (by rw [RBk.all_pre]; exact List.mem_append_left _ ha)
      omega
  have hg0 : ∀ b ∈ ({ r with mg := g', mc := cap' } : RBk).all, w0.heap.size ≤ b := fun b hb => by
    rw [RBk.all_pre] at hb
    have hb' : b ∈ r.pre ++ [g'] := hb
    rcases List.mem_append.1 hb' with hb | hb
    · exact h.g0 b (by rw [RBk.all_pre]; exact List.mem_append_left _ hb)
    · rw [List.mem_singleton.1 hb]
      rcases hg with rfl | hg
      · exact h.g0 _ r.m_mg
      · have := h.bl.size; omega
  have hnd := h.nd.kept (w' := w') (e 0 _ rfl (by omega) (by omega))
  refine ⟨⟨⟨hnd.b0, hnd.b1, hnd.b2, hnd.b3, hnd.b4, hnd.b5, hnd.b6, hnd.b7, hnd.fr⟩, ?_, h.sm, ⟨lv, ?_, hy1, hy2, hy3⟩, ?_, h.lf, h.len, h.tb.keptB (e 4 _ rfl (by omega) (by omega)) (e 5 _ rfl (by omega) (by omega)), h.vs, h.te.keptB (e 6 _ rfl (by omega) (by omega)) (e 7 _ rfl (by omega) (by omega)), h.cu, t, h.ru' cl h0, h.rl, h.rb, hds, hg0, h.id, h.bl' cl h0⟩, cl.mono (fun b hb => ?_)⟩
  · unfold RRol; rw [e 3 _ rfl (by omega) (by omega)]; exact h.ro
  · unfold RBy; rw [e 2 _ rfl (by omega) (by omega)]; exact hy
  · unfold RCe; rw [e 1 _ rfl (by omega) (by omega)]; exact h.ce
  · simp only [List.mem_cons, List.not_mem_nil, or_false] at hb
    rcases hb with rfl | rfl
    · exact Or.inl r.m_mi
    · exact Or.inl r.m_mg
/-- its mirror's cells: where they were, or new. -/
def NewG (r : RBk) (n g' : Nat) : Prop := g' = r.mg ∨ n ≤ g'
/-- a node that has heard. -/
def HearR (w0 w' : World) (r : RBk) (x : No) (lo i : Int) (m n : Nat) : Prop := ∃ g' cap' q', NewG r n g' ∧ RNd w0 w' { r with mg := g', mc := cap' } x q' lo i m
theorem rmtell_rn (h : RNd w0 w r x q lo i m) (li : Int) (l : List Tc) (p : Option Addr) (cap : Nat) (R : TcR w p l) (hp : l ≠ [] → ∀ b o, p = some ⟨b, o, none⟩ → b ≠ r.mi ∧ b ≠ r.mg) (hl : l.length ≤ 100000) :
    Calls Tryz.prog 87 #[.pointer (some ⟨r.mi, 0, none⟩), .int .i64 li, .slice p l.length cap] w fun e w' => e = .returned (.int .i64 (tellE x.ml li l : Nat)) ∧ ∃ g' cap', RNd w0 w' { r with mg := g', mc := cap' } { x with ml := tellLife x.ml li l, mt := tellT x.ml li x.mt l } q lo i m ∧ ChgL r.all w w' ∧ NewG r w.heap.size g' := by
  refine (rtell_any r.mi r.mg r.mc li x.ml x.mt l p cap w h.mi R hp hl).mono ?_
  rintro e w' ⟨rfl, ⟨g', cap', t, hg⟩, c⟩
  obtain ⟨n, k⟩ := h.onMi t hg c
  exact ⟨rfl, g', cap', n, k, hg⟩
theorem rrhear_rn (h : RNd w0 w r x q lo i m) (e : Int) :
    Calls Tryz.prog 88 #[.pointer (some ⟨r.ro, 0, none⟩), .int .i64 e] w fun v w' => (∃ u, v = .returned u) ∧ RNd w0 w' r { x with ro := x.ro.hear e } (q.rhear e) lo i m ∧ Chg r.ro w w' := by
  refine (rhear_any r.ro q e w h.ro).mono ?_
  rintro v w' ⟨rfl, t, c⟩
  exact ⟨⟨_, rfl⟩, h.onRo t (h.sm.hear e).1 c, c⟩
end
/-- a note's own block, the document's. -/
def RfZ (w : World) (Q : Nat) (t : Nf) (cv : Value) : Prop := w.heap[Q]? = some (.cells #[.int .i64 t.fr, .int .i64 t.li, .int .i64 t.ep, .bool t.cl, cv] 53 (0, 0))
theorem RfZ.lt {w : World} {Q : Nat} {t : Nf} {cv : Value} (h : RfZ w Q t cv) : Q < w.heap.size := by
  rcases Nat.lt_or_ge Q w.heap.size with a | a
  · exact a
  · unfold RfZ at h; rw [Array.getElem?_eq_none a] at h; cases h
theorem RfZ.below {w w' : World} {Q : Nat} {t : Nf} {cv : Value} (h : RfZ w Q t cv) (hb : Below w.heap.size w w') : RfZ w' Q t cv := by unfold RfZ; rw [hb.block Q h.lt]; exact h
theorem RfZ.chgL {w w' : World} {Q : Nat} {t : Nf} {cv : Value} {l : List Nat} (h : RfZ w Q t cv) (hb : ChgL l w w') (hn : ¬ Q ∈ l) : RfZ w' Q t cv := by unfold RfZ; rw [hb.block Q h.lt hn]; exact h
theorem RfZ.c {w : World} {Q : Nat} {t : Nf} {cv : Value} (h : RfZ w Q t cv) (i : Nat) : w.cell? ⟨Q, i, none⟩ = (#[.int .i64 t.fr, .int .i64 t.li, .int .i64 t.ep, .bool t.cl, cv] : Array Value)[i]? := cell_of_row w _ _ _ _ _ h
theorem RfZ.new (w : World) (t : Nf) (cv : Value) : RfZ (w.alloc (.cells #[.int .i64 t.fr, .int .i64 t.li, .int .i64 t.ep, .bool t.cl, cv] 53)) w.heap.size t cv := heap_alloc_new w _
theorem RfZ.b {w : World} {Q : Nat} {t : Nf} {cv : Value} (h : RfZ w Q t cv) : NfB w Q t cv := ⟨h.c 0, h.c 1, h.c 2, h.c 3, h.c 4⟩
set_option maxRecDepth 100000 in
set_option maxHeartbeats 4000000 in
theorem rhear_rn {w0 w : World} {r : RBk} {x : No} {q : Ro} {lo i : Int} {m : Nat} (h : RNd w0 w r x q lo i m) (t : Nf) (p : Option Addr) (cap : Nat) (R : TcR w p t.cs) (hp : t.cs ≠ [] → ∀ b o, p = some ⟨b, o, none⟩ → b ≠ r.mi ∧ b ≠ r.mg) (hl : t.cs.length ≤ 100000) :
    Calls Tryz.prog 46 #[.pointer (some ⟨r.nd, 0, none⟩), .agg #[.int .i64 t.fr, .int .i64 t.li, .int .i64 t.ep, .bool t.cl, .slice p t.cs.length cap]] w fun e w' => e = .returned (.int .i64 (x.heE t : Nat)) ∧ HearR w0 w' r (x.hrd t) lo i m w.heap.size ∧ ChgL r.all w w' := by
  have HN : Hid (RNd w0 w r x q lo i m) := h
  have HR : Hid (TcR w p t.cs) := R
  have HP : Hid ((t.cs ≠ [] → ∀ b o, p = some ⟨b, o, none⟩ → b ≠ r.mi ∧ b ≠ r.mg) ∧ t.cs.length ≤ 100000) := ⟨hp, hl⟩
  have hid := h.id
  have hw : IntKind.i64.wrap (1 - x.id) = 1 - x.id := by rw [IntKind.wrap_i64]; omega
  have b0 := h.nd.b0
  have k0 := h.blk _ r.m_nd
  clear h R hp hl
  go_enter Tryz.func46, Tryz.ntmps46
  go_wp2_with fail
  have B1 : Hid (Below w.heap.size w (w.alloc (.cells #[.int .i64 t.fr, .int .i64 t.li, .int .i64 t.ep, .bool t.cl, .slice p t.cs.length cap] 53))) := aB _ _
  have Z1 : Hid (RfZ (w.alloc (.cells #[.int .i64 t.fr, .int .i64 t.li, .int .i64 t.ep, .bool t.cl, .slice p t.cs.length cap] 53)) w.heap.size t (.slice p t.cs.length cap)) := RfZ.new w t _
  generalize w.alloc (.cells #[.int .i64 t.fr, .int .i64 t.li, .int .i64 t.ep, .bool t.cl, .slice p t.cs.length cap] 53) = w1 at *
  generalize hQe : w.heap.size = Q at Z1 ⊢
  have HNQ : Hid (¬ Q ∈ r.all ∧ w.heap.size ≤ Q) := ⟨fun hm => by have := HN.out.blk _ hm; omega, by omega⟩
  have N1 : Hid (RNd w0 w1 r x q lo i m) := HN.out.below B1.out
  clear hQe b0 k0 hid
  obtain ⟨z0, z1, z2, z3, z4⟩ := Z1.out.b
  have n1 := N1.out.nd.b0
  by_cases h0 : t.fr = 1 - x.id ∧ 0 ≤ t.ep ∧ t.ep ≤ 1073741824
  · obtain ⟨e0, e1, e2⟩ := h0
    have HB : Hid (t.fr = 1 - x.id ∧ 0 ≤ t.ep ∧ t.ep ≤ 1073741824) := ⟨e0, e1, e2⟩
    have b0 : (t.fr != 1 - x.id) = false := by rw [e0]; simp
    have b1 : ¬ t.ep < 0 := by omega
    have b2 : ¬ 1073741824 < t.ep := by omega
    clear e0 e1 e2
    go_quiet (fail)
    have D2 : Hid (Below w1.heap.size w1 (w1.drewN nq)) := ⟨rfl, rfl, rfl, Nat.le_refl _, fun _ _ => rfl⟩
    generalize w1.drewN nq = w2 at *
    have B2 : Hid (Below w.heap.size w w2) := t2 B1.out D2.out
    have Z2 : Hid (RfZ w2 Q t (.slice p t.cs.length cap)) := Z1.out.below D2.out
    have N2 : Hid (RNd w0 w2 r x q lo i m) := HN.out.below B2.out
    have R2 : Hid (TcR w2 p t.cs) := HR.out.below B2.out
    clear z0 z1 z2 z3 z4 n1 D2 B1 Z1 N1 b0 b1 b2 hw
    obtain ⟨z0, z1, z2, z3, z4⟩ := Z2.out.b
    cases hcl : t.cl
    · have HE : Hid (x.heE t = tellE x.ml t.li t.cs) := by show _ = _; unfold No.heE; rw [if_pos HB.out, hcl]; rfl
      rw [hcl] at z3
      clear hcl
      go_wp2_with fail
      have hS : w2.drew.cell? ⟨r.nd, 6, none⟩ = some (.pointer (some ⟨r.mi, 0, none⟩)) ∧ w2.drew.cell? ⟨Q, 1, none⟩ = some (.int .i64 t.li) ∧ w2.drew.cell? ⟨Q, 4, none⟩ = some (.slice p t.cs.length cap) := ⟨N2.out.nd.b6, z1, z4⟩
      have D2 : Hid (RNd w0 w2.drew r x q lo i m ∧ TcR w2.drew p t.cs) := ⟨N2.out.below (Below.refl _ _).drew, R2.out.below (Below.refl _ _).drew⟩
      clear z0 z1 z2 z3 z4
      go_region_held3 (fun w' => w'.cell? ⟨r.nd, 6, none⟩ = some (.pointer (some ⟨r.mi, 0, none⟩)) ∧ w'.cell? ⟨Q, 1, none⟩ = some (.int .i64 t.li) ∧ w'.cell? ⟨Q, 4, none⟩ = some (.slice p t.cs.length cap))
        (first | assumption | exact ⟨N3.out.nd.b6, K3.out.keeps HNQ.out.1 hS.2.1, K3.out.keeps HNQ.out.1 hS.2.2⟩)
        (first | (go_at_call 87; refine (rmtell_rn D2.out.1 t.li t.cs p cap D2.out.2 HP.out.1 HP.out.2).mono ?_; rintro e w3 ⟨rfl, g', cap', n3, k3, g3⟩; have G3 : Hid (NewG r w.heap.size g') := (by rcases g3 with e | e; exact Or.inl e; exact Or.inr (Nat.le_trans B2.out.size e)); have N3 : Hid (RNd w0 w3 { r with mg := g', mc := cap' } { x with ml := tellLife x.ml t.li t.cs, mt := tellT x.ml t.li x.mt t.cs } q lo i m) := n3; have K3 : Hid (ChgL r.all w2.drew w3) := k3; clear n3 k3 g3))
      have Z3 : Hid (RfZ w3 Q t (.slice p t.cs.length cap)) := (Z2.out.below (Below.refl _ _).drew).chgL K3.out HNQ.out.1
      have X3 : Hid (ChgL r.all w w3) := (ChgL.of (t2 B2.out (Below.refl _ _).drew)).trans K3.out
      clear hS K3 Z2 N2 B2 R2 D2
      by_cases hz : tellE x.ml t.li t.cs = 0
      · have HE0 : Hid (x.heE t = 0) := by show _ = _; rw [HE.out, hz]
        have HX : Hid (x.hrd t = { x with ml := tellLife x.ml t.li t.cs, mt := tellT x.ml t.li x.mt t.cs, ro := x.ro.hear t.ep }) := by show _ = _; unfold No.hrd; rw [if_pos HE0.out]
        rw [hz]
        clear hz
        go_wp2_with fail
        have hS : w3.drew.cell? ⟨r.nd, 3, none⟩ = some (.pointer (some ⟨r.ro, 0, none⟩)) ∧ w3.drew.cell? ⟨Q, 2, none⟩ = some (.int .i64 t.ep) := ⟨N3.out.nd.b3, Z3.out.b.c2⟩
        have D3 : Hid (RNd w0 w3.drew { r with mg := g', mc := cap' } { x with ml := tellLife x.ml t.li t.cs, mt := tellT x.ml t.li x.mt t.cs } q lo i m) := N3.out.below (Below.refl _ _).drew
        have HQ3 : Hid (Q ≠ r.ro) := fun e => HNQ.out.1 (e ▸ r.m_ro)
        go_region_held3 (fun w' => w'.cell? ⟨r.nd, 3, none⟩ = some (.pointer (some ⟨r.ro, 0, none⟩)) ∧ w'.cell? ⟨Q, 2, none⟩ = some (.int .i64 t.ep))
          (first | assumption | exact ⟨N4.out.nd.b3, K4.out.keeps HQ3.out hS.2⟩)
          (first | (go_at_call 88; refine (rrhear_rn D3.out t.ep).mono ?_; rintro e w4 ⟨⟨v4, rfl⟩, n4, k4⟩; have N4 : Hid (RNd w0 w4 { r with mg := g', mc := cap' } { x with ml := tellLife x.ml t.li t.cs, mt := tellT x.ml t.li x.mt t.cs, ro := x.ro.hear t.ep } (q.rhear t.ep) lo i m) := n4; have K4 : Hid (Chg r.ro w3.drew w4) := k4; clear n4 k4))
        have X4 : Hid (ChgL r.all w w4) := (X3.out.trans (ChgL.of (Below.refl _ _).drew)).trans (ChgL.one K4.out r.m_ro)
        clear hS K4 X3
        go_wp2_with fail
        go_ret
        exact ⟨by rw [HE0.out]; rfl, ⟨g', cap', q.rhear t.ep, G3.out, by rw [HX.out]; exact N4.out⟩, X4.out⟩
      · have HX : Hid (x.hrd t = { x with ml := tellLife x.ml t.li t.cs, mt := tellT x.ml t.li x.mt t.cs }) := by
          show _ = _
          unfold No.hrd tellLife tellT
          rw [if_neg (by rw [HE.out]; exact hz), if_neg hz, if_neg hz]
        obtain ⟨e1, he1⟩ : ∃ e1, tellE x.ml t.li t.cs = e1 := ⟨_, rfl⟩
        rw [he1] at HE hz ⊢
        have hz' : ((e1 : Int) == 0) = false := beq_eq_false_iff_ne.2 (by omega)
        clear hz he1
        go_wp2_with fail
        go_ret
        exact ⟨by rw [HE.out]; rfl, ⟨g', cap', q, G3.out, by rw [HX.out]; exact N3.out⟩, X3.out⟩
    · have HE : Hid (x.heE t = 3) := by show _ = _; unfold No.heE; rw [if_pos HB.out, hcl]; rfl
      have HX : Hid (x.hrd t = x) := by show _ = _; unfold No.hrd; rw [if_neg (by rw [HE.out]; decide)]
      rw [hcl] at z3
      clear hcl
      go_wp2_with fail
      go_ret
      exact ⟨by rw [HE.out]; rfl, ⟨r.mg, r.mc, q, Or.inl rfl, by rw [HX.out]; exact N2.out⟩, ChgL.of B2.out⟩
  · have HE : Hid (x.heE t = 2) := by show _ = _; unfold No.heE; rw [if_neg h0]
    have HX : Hid (x.hrd t = x) := by show _ = _; unfold No.hrd; rw [if_neg (by rw [HE.out]; decide)]
    have F1 : Hid (∀ n, RNd w0 (w1.drewN n) r x q lo i m ∧ ChgL r.all w (w1.drewN n)) := fun n => ⟨N1.out.below ⟨rfl, rfl, rfl, Nat.le_refl _, fun _ _ => rfl⟩, ChgL.of (t2 B1.out ⟨rfl, rfl, rfl, Nat.le_refl _, fun _ _ => rfl⟩)⟩
    by_cases e0 : t.fr = 1 - x.id
    · have b0 : (t.fr != 1 - x.id) = false := by rw [e0]; simp
      have HQ : Hid (t.ep < 0 ∨ 1073741824 < t.ep) := (by omega : t.ep < 0 ∨ 1073741824 < t.ep)
      clear e0 h0
      by_cases b1 : t.ep < 0
      · go_quiet (fail)
        go_wp2_with fail
        go_ret
        exact ⟨by rw [HE.out]; rfl, ⟨r.mg, r.mc, q, Or.inl rfl, by rw [HX.out]; exact (F1.out _).1⟩, (F1.out _).2⟩
      · have b2 : 1073741824 < t.ep := by have := HQ.out; omega
        go_quiet (fail)
        go_wp2_with fail
        go_ret
        exact ⟨by rw [HE.out]; rfl, ⟨r.mg, r.mc, q, Or.inl rfl, by rw [HX.out]; exact (F1.out _).1⟩, (F1.out _).2⟩
    · have b0 : (t.fr != 1 - x.id) = true := by simp [e0]
      clear e0 h0
      go_quiet (fail)
      go_wp2_with fail
      go_ret
      exact ⟨by rw [HE.out]; rfl, ⟨r.mg, r.mc, q, Or.inl rfl, by rw [HX.out]; exact (F1.out _).1⟩, (F1.out _).2⟩
end Go.Proofs.YtifjoboaolpejaaGreatDoor

namespace Go.Proofs.YtifjoboaolpejaaGreatDoor
open Go.RowKit

theorem putE_life {off : Bool} {s : By} {ep : Int} (hB : s.B.length = 64) : (newest (putE off s ep ((newest s.B).l : Int)).2.1.B).l = (newest s.B).l := by
  have hlt := newest_lt s.B
  unfold putE
  by_cases h1 : off = true
  · rw [if_pos h1]
  rw [if_neg h1]
  by_cases h2 : badEp ep ((newest s.B).l : Int) = true
  · rw [if_pos h2]
  rw [if_neg h2]
  by_cases h3 : oldEp s ep ((newest s.B).l : Int) = true
  · rw [if_pos h3]
  rw [if_neg h3]
  by_cases h4 : (newest s.B).n = 4294967295
  · rw [if_pos h4]
  rw [if_neg h4]
  have hb : isEp ep = true := by
    unfold badEp at h2
    cases he : isEp ep
    · rw [he] at h2; simp at h2
    · rfl
  have he : ep ≤ 1073741824 := by
    unfold isEp at hb
    simp at hb
    exact hb.2
  have hp := put_pair (s := s) (x := nextNm s ep ((newest s.B).l : Int)) hB rfl (by show (newest s.B).n + 1 < _; omega) (by show ep.toNat < _; omega) (by show (((newest s.B).l : Int)).toNat < _; omega)
  by_cases h5 : (putS s (nextNm s ep ((newest s.B).l : Int))).2 = true
  · rw [if_pos h5]
    show (newest (putS s (nextNm s ep ((newest s.B).l : Int))).1.B).l = _
    rw [(hp.1 h5).1]
    show (((newest s.B).l : Int)).toNat = _
    omega
  · rw [if_neg h5]
    show (newest (putS s (nextNm s ep ((newest s.B).l : Int))).1.B).l = _
    rw [(hp.2 (by simpa using h5)).1]
section
variable {w0 w w' : World} {r : RBk} {x : No} {q : Ro} {lo i : Int} {m : Nat}
/-- its cell and its bytes are others. -/
theorem RNd.onCe (h : RNd w0 w r x q lo i m) {y' : By} {off' : Bool} {lo' : Int} (t : RS w w' r.yb r.ce y' (newest y'.B) off' lo') (hl : (newest y'.B).l = (newest x.y.B).l) : RNd w0 w' r { x with y := y', off := off' } q lo' i m := by
  have cl : ChgL [r.yb, r.ce] w w' := ⟨t.x.os, t.x.tape, t.x.output, t.x.size, fun k hk hn => t.x.block k hk (fun e => hn (by simp [e])) (fun e => hn (by simp [e]))⟩
  have h0 : ∀ b ∈ [r.yb, r.ce], w0.heap.size ≤ b := fun b hb => by
    simp only [List.mem_cons, List.not_mem_nil, or_false] at hb
    rcases hb with rfl | rfl
    · exact h.g0 _ r.m_yb
    · exact h.g0 _ r.m_ce
  have e : ∀ (j : Nat) (b : Nat), r.all[j]? = some b → j ≠ 1 → j ≠ 2 → w'.heap[b]? = w.heap[b]? := fun j b hb h8 h9 => t.x.block b (h.blk b (List.mem_of_getElem? hb)) (RBk.df h.ds j 2 hb rfl h9) (RBk.df h.ds j 1 hb rfl h8)
  refine ⟨h.nd.kept (e 0 _ rfl (by omega) (by omega)), ?_, h.sm, t.r, t.c, h.lf.trans (by rw [hl]), t.len, h.tb.keptB (e 4 _ rfl (by omega) (by omega)) (e 5 _ rfl (by omega) (by omega)), h.vs, h.te.keptB (e 6 _ rfl (by omega) (by omega)) (e 7 _ rfl (by omega) (by omega)), h.cu, h.mi.keptB (e 8 _ rfl (by omega) (by omega)) (e 9 _ rfl (by omega) (by omega)), h.ru' cl h0, h.rl, h.rb, h.ds, h.g0, h.id, h.bl' cl h0⟩
  unfold RRol; rw [e 3 _ rfl (by omega) (by omega)]; exact h.ro
theorem RNd.rs (h : RNd w0 w r x q lo i m) : RS w w r.yb r.ce x.y (newest x.y.B) x.off lo :=
  ⟨h.yb, h.ce, RBk.df h.ds 1 2 rfl rfl (by omega), h.len, ⟨rfl, rfl, rfl, Nat.le_refl _, fun _ _ _ _ => rfl⟩⟩
/-- its teller is another one. -/
theorem RNd.onTe (h : RNd w0 w r x q lo i m) {D' : To} {c' : Nat} (t : RTel w' r.te r.tb r.th D' c') (hc : c' < 32) (c : Chg2 r.te r.th w w') : RNd w0 w' r { x with D := D', cu := c' } q lo i m ∧ ChgL r.all w w' := by
  have cl : ChgL [r.te, r.th] w w' := ⟨c.os, c.tape, c.output, c.size, fun k hk hn => c.block k hk (fun e => hn (by simp [e])) (fun e => hn (by simp [e]))⟩
  have h0 : ∀ b ∈ [r.te, r.th], w0.heap.size ≤ b := fun b hb => by
    simp only [List.mem_cons, List.not_mem_nil, or_false] at hb
    rcases hb with rfl | rfl
    · exact h.g0 _ r.m_te
    · exact h.g0 _ r.m_th
  have e : ∀ (j : Nat) (b : Nat), r.all[j]? = some b → j ≠ 6 → j ≠ 7 → w'.heap[b]? = w.heap[b]? := fun j b hb h8 h9 => c.block b (h.blk b (List.mem_of_getElem? hb)) (RBk.df h.ds j 6 hb rfl h8) (RBk.df h.ds j 7 hb rfl h9)
  obtain ⟨lv, hy, hy1, hy2, hy3⟩ := h.yb
  refine ⟨⟨h.nd.kept (e 0 _ rfl (by omega) (by omega)), ?_, h.sm, ⟨lv, ?_, hy1, hy2, hy3⟩, ?_, h.lf, h.len, h.tb.keptB (e 4 _ rfl (by omega) (by omega)) (e 5 _ rfl (by omega) (by omega)), h.vs, t, hc, h.mi.keptB (e 8 _ rfl (by omega) (by omega)) (e 9 _ rfl (by omega) (by omega)), h.ru' cl h0, h.rl, h.rb, h.ds, h.g0, h.id, h.bl' cl h0⟩, cl.mono (fun b hb => ?_)⟩
  · unfold RRol; rw [e 3 _ rfl (by omega) (by omega)]; exact h.ro
  · unfold RBy; rw [e 2 _ rfl (by omega) (by omega)]; exact hy
  · unfold RCe; rw [e 1 _ rfl (by omega) (by omega)]; exact h.ce
  · simp only [List.mem_cons, List.not_mem_nil, or_false] at hb
    rcases hb with rfl | rfl
    · exact Or.inl r.m_te
    · exact Or.inl r.m_th
theorem rexpire_rn (h : RNd w0 w r x q lo i m) (hm : m ≤ 100000000) (now : Int) :
    Calls Tryz.prog 89 #[.pointer (some ⟨r.tb, 0, none⟩), .int .i64 now] w fun e w' => (∃ v, e = .returned v) ∧ RNd w0 w' r { x with T := expT x.T now 32 } q lo i (m + 1) ∧ ChgL r.all w w' := by
  refine (expireR_any r.tb r.tg r.tc x.low x.T now m w h.tb h.vs hm).mono ?_
  rintro e w' ⟨v, rfl, _, t, g⟩
  exact ⟨⟨_, rfl⟩, h.onTb t (expT_ve h.vs _ _) g, ChgL.one g r.m_tg⟩
theorem rrtick_rn (h : RNd w0 w r x q lo i m) (hi : i ≤ 1000000) :
    Calls Tryz.prog 90 #[.pointer (some ⟨r.ro, 0, none⟩)] w fun e w' => e = .returned (.bool x.ro.rings) ∧ RNd w0 w' r { x with ro := x.ro.tick } q.rtick lo (i + 1) m ∧ ChgL r.all w w' := by
  refine (rtick_any r.ro q w h.ro h.sm.s0 (by have := h.sm.s1; omega)).mono ?_
  rintro e w' ⟨rfl, t, c⟩
  exact ⟨by rw [h.sm.tick.2], h.onRo t h.sm.tick.1 c, ChgL.one c r.m_ro⟩
theorem rrnext_rn (h : RNd w0 w r x q lo i m) :
    Calls Tryz.prog 91 #[.pointer (some ⟨r.ro, 0, none⟩)] w fun e w' => e = .returned (.tuple #[.int .i64 x.ro.nxV, .int .i64 (x.ro.nxE : Int)]) ∧ w' = w := by
  have k := h.sm.k
  have e1 : q.nxV = x.ro.nxV := by unfold Ro.nxV; rw [h.sm.nx]
  have e2 : q.nxE = x.ro.nxE := by unfold Ro.nxE; rw [h.sm.nx]
  rw [← e1, ← e2]
  exact rrnext_any r.ro q w h.ro (by rw [h.sm.nd]; exact k.n) (by rw [h.sm.ep]; exact k.e0) (by rw [h.sm.ep]; exact k.e1)
theorem rrclaim_rn (h : RNd w0 w r x q lo i m) (n : Int) :
    Calls Tryz.prog 92 #[.pointer (some ⟨r.ro, 0, none⟩), .int .i64 n] w fun e w' => (∃ v, e = .returned v) ∧ RNd w0 w' r { x with ro := x.ro.claim n } (q.claim n) lo i m ∧ ChgL r.all w w' := by
  have k := h.sm.k
  refine (rclaim_any r.ro q n w h.ro (by rw [h.sm.nd]; exact k.n) (by rw [h.sm.ep]; exact k.e0) (by rw [h.sm.ep]; exact k.e1)).mono ?_
  rintro e w' ⟨rfl, t, c⟩
  exact ⟨⟨_, rfl⟩, h.onRo t (h.sm.claim n) c, ChgL.one c r.m_ro⟩
theorem rcput_rn (h : RNd w0 w r x q lo i m) (hlo : -900000000 ≤ lo) (ep : Int) :
    Calls Tryz.prog 36 #[.pointer (some ⟨r.ce, 0, none⟩), .int .i64 ep, .int .i64 x.life] w fun e w' => e = .returned (.int .i64 (((putE x.off x.y ep x.life).1 : Nat) : Int)) ∧ RNd w0 w' r { x with y := (putE x.off x.y ep x.life).2.1, off := (putE x.off x.y ep x.life).2.2 } q (lo - 20) i m ∧ ChgL r.all w w' := by
  refine (rput_any h.rs rfl ep x.life hlo).mono ?_
  rintro e w' ⟨rfl, t⟩
  have hl : (newest (putE x.off x.y ep x.life).2.1.B).l = (newest x.y.B).l := by rw [h.lf]; exact putE_life h.len
  refine ⟨rfl, h.onCe t hl, ?_⟩
  exact ⟨t.x.os, t.x.tape, t.x.output, t.x.size, fun k hk hn => t.x.block k hk (fun e => hn (e ▸ r.m_yb)) (fun e => hn (e ▸ r.m_ce))⟩
theorem rtput_rn (h : RNd w0 w r x q lo i m) (hm : m ≤ 1000000000) (c : Ce) :
    Calls Tryz.prog 94 #[.pointer (some ⟨r.tb, 0, none⟩), flowV c] w fun e w' => (∃ v, e = .returned v) ∧ RNd w0 w' r { x with T := (putT x.T c.pr c.ia c.ip c.fa c.fp c.po c.st c.un).2.2 } q lo i (m + 1) ∧ ChgL r.all w w' := by
  refine (putR_any r.tb r.tg r.tc x.low x.T c m w h.tb h.vs hm).mono ?_
  rintro e w' ⟨rfl, t, g⟩
  exact ⟨⟨_, rfl⟩, h.onTb t (h.vs.put _ _ _ _ _ _ _ _) g, ChgL.one g r.m_tg⟩
theorem rflows_rn (h : RNd w0 w r x q lo i m) :
    Calls Tryz.prog 93 #[.slice (some ⟨r.mg, 0, none⟩) 32 r.mc] w fun e w' => (∃ v, e = .returned v ∧ w'.ownsRow w.heap.size 136 8 v (flL x.mt 32).length (flCs (flL x.mt 32))) ∧ Below w.heap.size w w' :=
  rflows_any r.mg r.mc x.mt w h.mi.sl
theorem rtnext_rn (h : RNd w0 w r x q lo i m) :
    Calls Tryz.prog 95 #[.pointer (some ⟨r.te, 0, none⟩)] w fun e w' => (∃ p cp, e = .returned (.slice p 8 cp) ∧ RowL w' p x.T (nxL x.T x.D x.cu) ∧ FrP w.heap.size p) ∧ RNd w0 w' r { x with D := toldD x.T x.D (nxL x.T x.D x.cu), cu := nxC x.T x.D x.cu } q lo i m ∧ ChgL r.all w w' := by
  refine (rnext_any r.te r.tb r.th r.tg r.tc x.cu x.low x.T x.D w h.tb h.te h.cu ⟨RBk.df h.ds 4 6 rfl rfl (by omega), RBk.df h.ds 4 7 rfl rfl (by omega), RBk.df h.ds 5 6 rfl rfl (by omega), RBk.df h.ds 5 7 rfl rfl (by omega)⟩).mono ?_
  rintro e w' ⟨L, c', p, cp, nx, rfl, ro, fp, _, te, g⟩
  obtain ⟨rfl, rfl⟩ := nx.one (nx_spec x.T x.D x.cu)
  obtain ⟨n, k⟩ := h.onTe te nx.cur g
  exact ⟨⟨p, cp, rfl, ro, fp⟩, n, k⟩
end
end Go.Proofs.YtifjoboaolpejaaGreatDoor
