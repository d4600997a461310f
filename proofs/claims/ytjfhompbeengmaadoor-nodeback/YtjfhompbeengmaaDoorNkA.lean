/-
  A node whose flows are of these inner ends, in a law's walk: packets both ways, and ticks.
-/
import Derived.Test.YtjfhompbeengmaaDoorKo
import Derived.Test.YtjfhompbeengmaaDoorNtM
namespace Go.Proofs.YtjfhompbeengmaaDoor
open Go.RowKit

/-- such a node in memory. -/
def Lb (w0 w : World) (k : Bk) (ds : List (Int × Int)) (pr fa fp low : Int) (Q : Int → Int → Prop) (l : List Rl) (now c : Nat) : Prop := ∃ x m n, Nd w0 w k x m n ∧ m ≤ 33 * now + c ∧ n ≤ 8 * now ∧ Bn ds pr fa fp low Q l now x
section
variable {w0 w : World} {k : Bk} {ds : List (Int × Int)} {pr fa fp low : Int} {Q : Int → Int → Prop} {l : List Rl} {now c : Nat} {s : Nat → Addr}
theorem Lb.bl (h : Lb w0 w k ds pr fa fp low Q l now c) : Below w0.heap.size w0 w := by
  obtain ⟨x, m, n, nd, _⟩ := h; exact nd.bl
theorem Lb.lt (h : Lb w0 w k ds pr fa fp low Q l now c) : ∀ b ∈ k.all, b < w.heap.size := by
  obtain ⟨x, m, n, nd, _⟩ := h; exact nd.lt
theorem Lb.g0 (h : Lb w0 w k ds pr fa fp low Q l now c) : ∀ b ∈ k.all, w0.heap.size ≤ b := by
  obtain ⟨x, m, n, nd, _⟩ := h; exact nd.g0
theorem Lb.len (h : Lb w0 w k ds pr fa fp low Q l now c) : ds.length ≤ 24 := by
  obtain ⟨x, m, n, nd, _, _, b⟩ := h; exact b.le
theorem Lb.nodup (h : Lb w0 w k ds pr fa fp low Q l now c) : ds.Nodup := by
  obtain ⟨x, m, n, nd, _, _, b⟩ := h; exact b.nd
theorem Lb.below {w' : World} (h : Lb w0 w k ds pr fa fp low Q l now c) (hb : Below w.heap.size w w') : Lb w0 w' k ds pr fa fp low Q l now c := by
  obtain ⟨x, m, n, nd, r⟩ := h; exact ⟨x, m, n, nd.below hb, r⟩
theorem Lb.cup {c' : Nat} (h : Lb w0 w k ds pr fa fp low Q l now c) (hc : c ≤ c') : Lb w0 w k ds pr fa fp low Q l now c' := by
  obtain ⟨x, m, n, nd, hm, r⟩ := h; exact ⟨x, m, n, nd, by omega, r⟩
theorem Lb.mono {Q' : Int → Int → Prop} (h : Lb w0 w k ds pr fa fp low Q l now c) (hq : ∀ st un, Q st un → Q' st un) : Lb w0 w k ds pr fa fp low Q' l now c := by
  obtain ⟨x, m, n, nd, hm, hn, b⟩ := h; exact ⟨x, m, n, nd, hm, hn, ⟨b.ac, b.nw, b.lo, b.T.mono hq, b.ru, b.nd, b.le⟩⟩
/-- a fresh block is written. -/
theorem Lb.fresh {wB w' : World} {ds0 : List (Int × Int)} {now0 c0 q : Nat} {Q0 : Int → Int → Prop} (h : Lb w0 w k ds pr fa fp low Q l now c) (H : Lb w0 wB k ds0 pr fa fp low Q0 l now0 c0) (g : Chg q w w') (hq : wB.heap.size ≤ q) : Lb w0 w' k ds pr fa fp low Q l now c := by
  obtain ⟨x, m, n, nd, hm, hn, b⟩ := h
  obtain ⟨x0, m0, n0, nd0, _, _, b0⟩ := H
  refine ⟨x, m, n, nd.kept (l := [q]) (ChgL.one g (by simp)) (fun d hd hm => ?_) (fun hne a e hm => ?_) (fun d hd => ?_), hm, hn, b⟩
  · simp at hm; have := nd0.lt d hd; omega
  · simp at hm
    have hne' : x0.ru ≠ [] := by rw [b0.ru, ← b.ru]; exact hne
    obtain ⟨r, hr'⟩ := List.exists_mem_of_ne_nil _ hne'
    obtain ⟨i, hi⟩ := List.getElem?_of_mem hr'
    obtain ⟨g2, o, e2, h0, _⟩ := nd0.ru i r hi
    rw [e] at e2
    cases e2
    have h1 : g2 < wB.heap.size := tlt h0
    simp only at hm
    omega
  · simp at hd; have := nd0.bl.size; omega
theorem Lb.grown {wB w' : World} {ds0 : List (Int × Int)} {now0 c0 : Nat} {Q0 : Int → Int → Prop} {row : Option Nat} (h : Lb w0 w k ds pr fa fp low Q l now c) (H : Lb w0 wB k ds0 pr fa fp low Q0 l now0 c0) (g : w.grownBy w' row) (hq : ∀ q, row = some q → wB.heap.size ≤ q) : Lb w0 w' k ds pr fa fp low Q l now c := by
  cases row with
  | none => exact h.below ⟨g.os, g.tape, g.output, g.size, fun j hj => g.block j hj (by simp)⟩
  | some q => exact h.fresh H ⟨g.os, g.tape, g.output, g.size, fun j hj hn => g.block j hj (by simpa using hn)⟩ (hq q rfl)
theorem ownsRow_chgL {w w' : World} {B : Nat} {t : TypeId} {z n : Nat} {v : Value} {xs : List Value} {l : List Nat} (h : w.ownsRow B t z v n xs) (c : ChgL l w w') (hl : ∀ b ∈ l, b < B) : w'.ownsRow B t z v n xs := by
  refine ⟨h.1, ?_⟩
  rcases h.2 with a | ⟨g, cap, cur, h1, h2, h3, h4⟩
  · exact .inl a
  · refine .inr ⟨g, cap, cur, h1, h2, ?_, h4⟩
    have hg : g < w.heap.size := by
      rcases Nat.lt_or_ge g w.heap.size with a | a
      · exact a
      · rw [Array.getElem?_eq_none a] at h3; cases h3
    rw [c.block g hg (fun hm => by have := hl g hm; omega)]
    exact h3
theorem lb_new {id ep life : Nat} {y : By} (h : Lr w0 w k id ep life y l 10) : Lb w0 w k [] pr fa fp (2000 + (id : Int) * 24) Q l 10 0 := by
  obtain ⟨x, n, nd, hn, q, hru⟩ := h
  refine ⟨x, 330, n, nd, by omega, by omega, ⟨by rw [q.ro, roQ_ac]; rfl, q.now, by unfold No.low; rw [q.ii], by rw [q.T]; exact BkT.new, hru, List.nodup_nil, by simp⟩⟩
theorem inside_lb (S : SeM w0 s) (h : Lb w0 w k ds pr fa fp low Q l now c) (e : Int × Int) (fl : Int) (hp : (⟨pr, e.1, e.2, fa, fp, fl⟩ : Pk).err = 0) (hpp : In6 pr) (hp0 : pr ≠ 0) (hb : bgnE pr fl = 0) (ha : adm l pr true fp = true) (hr : RulesOk l)
    (hg : nxtG pr fl = false) (hs : ∀ st un, Q st un → nxtS pr st fl true = st ∧ Q st (now + stay pr st)) (hq : Q (bgnS pr fl) (now + stay pr (bgnS pr fl))) (hl : ds.length < 24) (hnow : now ≤ 2000) (hc : c ≤ 1000) :
    Calls Tryd.prog 9 #[.pointer (some ⟨k.nd, 0, none⟩), .agg #[.int .i64 pr, .int .i64 e.1, .int .i64 e.2, .int .i64 fa, .int .i64 fp, .int .i64 fl]] w fun r w' => (∃ (ds' : List (Int × Int)) (j : Nat), r = .returned (.tuple #[(⟨pr, 1, low + j, fa, fp, fl⟩ : Pk).v, .nilIface]) ∧ (ds' = ds ∨ ds' = ds ++ [e]) ∧ ds'[j]? = some e ∧ Lb w0 w' k ds' pr fa fp low Q l now (c + 1)) ∧ ChgL k.all w w' := by
  obtain ⟨x, m, n, nd, hm, hn, b⟩ := h
  generalize hpe : (⟨pr, e.1, e.2, fa, fp, fl⟩ : Pk) = p at hp
  have hpr : p.pr = pr := by rw [← hpe]
  have hfl : p.fl = fl := by rw [← hpe]
  have hck : x.chk p = 0 := by unfold No.chk; rw [if_pos hp, b.ac]; rfl
  have hv : p.v = .agg #[.int .i64 pr, .int .i64 e.1, .int .i64 e.2, .int .i64 fa, .int .i64 fp, .int .i64 fl] := by rw [← hpe]
  have hle := b.le
  rw [← hv]
  refine (inside_nd S nd (by omega) (by rw [b.nw]; omega) (by rw [b.nw]; omega) (by rw [b.ru]; exact hr) p (by rw [hpr]; exact hpp)).mono ?_
  rintro r w' ⟨rfl, n1, cc⟩
  refine ⟨?_, cc⟩
  by_cases he : e ∈ ds
  · obtain ⟨j, hj, hje⟩ := List.mem_iff_getElem.1 he
    have hje' : ds[j]? = some e := by rw [List.getElem?_eq_getElem hj, hje]
    have hfn : x.fnd p = some j := by unfold No.fnd; rw [← hpe]; exact b.T.find hp0 (by omega) b.nd hje'
    obtain ⟨ve, st, un, hT, hQ⟩ := (b.T j).1 e hje'
    have hie : x.inE p = 0 := by unfold No.inE No.ouE; rw [if_pos hck, hfn]
    have hip : x.inP p = ⟨pr, 1, low + j, fa, fp, fl⟩ := by
      unfold No.inP No.ouF
      rw [if_pos hie, hfn]
      simp only [hT]
      rw [← hpe]
    obtain ⟨hs1, hs2⟩ := hs st un hQ
    have hns : x.nst j fl true = st := by unfold No.nst; rw [hT]; exact hs1
    have hin : x.ins p = { x with T := setT x.T j st (now + stay pr st) } := by
      unfold No.ins No.ou
      rw [if_pos hck, hfn]
      simp only [No.stp]
      rw [hfl, hns, hT]
      simp only [hg]
      rw [if_neg (by simp), b.nw]
    rw [hip, hie]
    rw [hin] at n1
    exact ⟨ds, j, rfl, .inl rfl, hje', ⟨_, _, n, n1, by omega, hn, ⟨b.ac, b.nw, b.lo, b.T.set hp0 (by omega) hj hs2, b.ru, b.nd, b.le⟩⟩⟩
  · have hfn : x.fnd p = none := by unfold No.fnd; rw [← hpe]; exact b.T.miss he
    obtain ⟨T', hadd, hT', ve, hTl⟩ := b.T.add hp0 hl he hq
    have haddR : x.addR p = (ds.length, 0, T') := by
      unfold No.addR
      rw [← hpe, b.lo, b.nw]
      exact hadd
    have hbe : x.bgE p = 0 := by
      unfold No.bgE
      rw [b.ru, haddR, hpr, hfl, show p.p2 = fp from by rw [← hpe], ha, if_pos rfl, if_pos hb]
    have hou : x.ouE p = 0 := by unfold No.ouE; rw [hfn]; exact hbe
    have hie : x.inE p = 0 := by unfold No.inE; rw [if_pos hck]; exact hou
    have hip : x.inP p = ⟨pr, 1, low + ds.length, fa, fp, fl⟩ := by
      unfold No.inP No.ouF
      rw [if_pos hie, hfn]
      simp only [No.bgF]
      rw [if_pos hbe, haddR]
      simp only [hTl]
      rw [← hpe]
    have hin : x.ins p = { x with T := T' } := by
      unfold No.ins No.ou
      rw [if_pos hck, hfn]
      simp only [No.bg]
      rw [if_pos hbe, haddR]
    rw [hip, hie]
    rw [hin] at n1
    exact ⟨ds ++ [e], ds.length, rfl, .inr rfl, by simp, ⟨_, _, n, n1, by omega, hn, ⟨b.ac, b.nw, b.lo, hT', b.ru, List.nodup_append.2 ⟨b.nd, by simp, fun a ha c hc => by simp at hc; rw [hc]; exact fun e2 => he (e2 ▸ ha)⟩, by simp; omega⟩⟩⟩
theorem tick_lb (S : SeM w0 s) (h : Lb w0 w k ds pr fa fp low Q l now c) (hq : ∀ st un, Q st un → (now : Int) + 1 < un) (hnow : now ≤ 2000) (hc : c ≤ 1000) :
    Calls Tryd.prog 7 #[.pointer (some ⟨k.nd, 0, none⟩)] w fun e w' => (∃ v, e = .returned (.tuple #[v, .nilIface])) ∧ Lb w0 w' k ds pr fa fp low Q l (now + 1) c ∧ ChgL k.all w w' := by
  obtain ⟨x, m, n, nd, hm, hn, b⟩ := h
  obtain ⟨e0, q1⟩ := b.tick hq
  refine (tick_nd S.n nd (by rw [b.nw]; omega) (by rw [b.nw]; omega) (by omega) (by omega)).mono ?_
  rintro r w' ⟨⟨v, rfl, _⟩, ⟨n', hn', n1⟩, cc⟩
  rw [e0]
  exact ⟨⟨v, rfl⟩, ⟨_, _, n', n1, by omega, by omega, q1⟩, cc⟩
theorem outside_lb (S : SeM w0 s) (h : Lb w0 w k ds pr fa fp low (fun _ _ => True) l now c) (j : Nat) (e : Int × Int) (he : ds[j]? = some e) (fl : Int) (hp : (⟨pr, fa, fp, 1, low + j, fl⟩ : Pk).err = 0) (hp0 : pr ≠ 0) (hg : nxtG pr fl = false) (hnow : now ≤ 2000) (hc : c ≤ 1000) :
    Calls Tryd.prog 10 #[.pointer (some ⟨k.nd, 0, none⟩), .agg #[.int .i64 pr, .int .i64 fa, .int .i64 fp, .int .i64 1, .int .i64 (low + j), .int .i64 fl]] w fun r w' => r = .returned (.tuple #[(⟨pr, fa, fp, e.1, e.2, fl⟩ : Pk).v, .nilIface]) ∧ Lb w0 w' k ds pr fa fp low (fun _ _ => True) l now (c + 1) ∧ ChgL k.all w w' := by
  obtain ⟨x, m, n, nd, hm, hn, b⟩ := h
  generalize hpe : (⟨pr, fa, fp, 1, low + j, fl⟩ : Pk) = p at hp
  have hpr : p.pr = pr := by rw [← hpe]
  have hfl : p.fl = fl := by rw [← hpe]
  have hck : x.chk p = 0 := by unfold No.chk; rw [if_pos hp, b.ac]; rfl
  have hv : p.v = .agg #[.int .i64 pr, .int .i64 fa, .int .i64 fp, .int .i64 1, .int .i64 (low + j), .int .i64 fl] := by rw [← hpe]
  have hle := b.le
  obtain ⟨hj, _⟩ := List.getElem?_eq_some_iff.1 he
  rw [← hv]
  refine (outside_nd S nd (by omega) (by rw [b.nw]; omega) (by rw [b.nw]; omega) p).mono ?_
  rintro r w' ⟨rfl, n1, cc⟩
  refine ⟨?_, ?_, cc⟩
  all_goals
    have hbk : x.bck p = some j := by unfold No.bck; rw [← hpe]; exact b.T.back hp0 (by omega) hj
    have hotj : x.otJ p = some j := by unfold No.otJ; rw [if_pos hck, if_pos (by rw [← hpe]), hbk]
    obtain ⟨ve, st, un, hT, _⟩ := (b.T j).1 e he
  · have hoe : x.otE p = 0 := by unfold No.otE; rw [if_pos hck, if_pos (by rw [← hpe]), hbk]
    have hop : x.otP p = ⟨pr, fa, fp, e.1, e.2, fl⟩ := by
      unfold No.otP
      rw [hotj]
      simp only [hT]
      rw [← hpe]
    rw [hoe, hop]
    rfl
  · have hin : x.ots p = { x with T := setT x.T j (x.nst j fl false) (x.now + stay pr (x.nst j fl false)) } := by
      unfold No.ots
      rw [hotj]
      simp only [No.stp]
      rw [hfl, hT]
      simp only [hg]
      rw [if_neg (by simp)]
    rw [hin] at n1
    exact ⟨_, _, n, n1, by omega, hn, ⟨b.ac, b.nw, b.lo, b.T.set hp0 (by omega) hj trivial, b.ru, b.nd, b.le⟩⟩
end
end Go.Proofs.YtjfhompbeengmaaDoor
