/-
  What a node calls, over the one structure of all its blocks.
-/
import Derived.Test.YtjfhompbeengmaaDoorNoA
import Derived.Test.YtjfhompbeengmaaDoorKc
import Derived.Test.YtjfhompbeengmaaDoorKd
import Derived.Test.YtjfhompbeengmaaDoorKg
namespace Go.Proofs.YtjfhompbeengmaaDoor
open Go.RowKit

/-- the sentinels that a node's ticks ask. -/
structure SeN (w : World) (s : Nat → Addr) : Prop where
  c1 : w.cell? ⟨0, 0, none⟩ = some (.iface 161 (.pointer (some (s 1))))
  c2 : w.cell? ⟨1, 0, none⟩ = some (.iface 161 (.pointer (some (s 2))))
  c4 : w.cell? ⟨9, 0, none⟩ = some (.iface 161 (.pointer (some (s 4))))
  c5 : w.cell? ⟨5, 0, none⟩ = some (.iface 161 (.pointer (some (s 5))))
  c6 : w.cell? ⟨3, 0, none⟩ = some (.iface 161 (.pointer (some (s 6))))
  c9 : w.cell? ⟨4, 0, none⟩ = some (.iface 161 (.pointer (some (s 9))))
  c10 : w.cell? ⟨7, 0, none⟩ = some (.iface 161 (.pointer (some (s 10))))
theorem SeN.below {w w' : World} {s : Nat → Addr} (S : SeN w s) (hb : Below w.heap.size w w') : SeN w' s := ⟨tk hb S.c1, tk hb S.c2, tk hb S.c4, tk hb S.c5, tk hb S.c6, tk hb S.c9, tk hb S.c10⟩
theorem SeN.s3 {w : World} {s : Nat → Addr} (S : SeN w s) : Se3 w s := ⟨S.c1, S.c2, S.c10⟩
theorem SeN.s45 {w : World} {s : Nat → Addr} (S : SeN w s) : Se45 w s := ⟨S.c4, S.c5⟩
theorem SeN.s5 {w : World} {s : Nat → Addr} (S : SeN w s) : Se5 w s := ⟨S.c1, S.c2, S.c5, S.c6, S.c9⟩
theorem SeN.sn {w : World} {s : Nat → Addr} (S : SeN w s) : Sen w s := ⟨S.c1, S.c2⟩

theorem expire_nd {w0 w : World} {k : Bk} {x : No} {m n : Nat} (h : Nd w0 w k x m n) (hm : m ≤ 100000000) (now : Int) :
    Calls Tryd.prog 25 #[.pointer (some ⟨k.tb, 0, none⟩), .int .i64 now] w fun e w' => (∃ v, e = .returned v) ∧ Nd w0 w' k { x with T := expT x.T now 32 } (m + 1) n ∧ ChgL k.all w w' := by
  refine (expire_any k.tb x.low x.T now m w h.tb h.vs hm).mono ?_
  rintro e w' ⟨v, rfl, _, _, t, c⟩
  exact ⟨⟨v, rfl⟩, h.onTb t (expT_ve h.vs now 32) (h.wt.exp now 32) c, ChgL.one c k.m_tb⟩
theorem rtick_nd {w0 w : World} {k : Bk} {x : No} {m n : Nat} (h : Nd w0 w k x m n) (r : Bool) (hr : x.ro.rings = r) :
    Calls Tryd.prog 26 #[.pointer (some ⟨k.ro, 0, none⟩)] w fun e w' => e = .returned (.bool r) ∧ Nd w0 w' k { x with ro := x.ro.tick } m n ∧ ChgL k.all w w' := by
  subst hr
  refine (tick_any k.ro x.ro w h.ro h.rk).mono ?_
  rintro e w' ⟨rfl, t, c⟩
  exact ⟨rfl, h.onRo t h.rk.tick c, ChgL.one c k.m_ro⟩
theorem rnext_nd {w0 w : World} {k : Bk} {x : No} {m n : Nat} {s : Nat → Addr} (S : SeN w0 s) (h : Nd w0 w k x m n) :
    Calls Tryd.prog 42 #[.pointer (some ⟨k.ro, 0, none⟩)] w fun e w' => e = .returned (.tuple #[.int .i64 x.ro.nxV, terr s x.ro.nxE]) ∧ Nd w0 w' k x m n ∧ ChgL k.all w w' := by
  refine (next_any k.ro x.ro s w h.ro h.rk (S.below h.bl).s3).mono ?_
  rintro e w' ⟨rfl, c⟩
  exact ⟨rfl, h.below c, ChgL.of c⟩
theorem rclaim_nd {w0 w : World} {k : Bk} {x : No} {m n : Nat} {s : Nat → Addr} (S : SeN w0 s) (h : Nd w0 w k x m n) (e : Int) :
    Calls Tryd.prog 44 #[.pointer (some ⟨k.ro, 0, none⟩), .int .i64 e] w fun r w' => r = .returned (terr s (x.ro.clE e)) ∧ Nd w0 w' k { x with ro := x.ro.claim e } m n ∧ ChgL k.all w w' := by
  refine (claim_any k.ro x.ro e s w h.ro h.rk (S.below h.bl).s3).mono ?_
  rintro e w' ⟨rfl, t, c⟩
  exact ⟨rfl, h.onRo t (h.rk.claim _) c, ChgL.one c k.m_ro⟩
theorem cput_nd {w0 w : World} {k : Bk} {x : No} {m n : Nat} {s : Nat → Addr} (S : SeN w0 s) (h : Nd w0 w k x m n) (ep li : Int) :
    Calls Tryd.prog 21 #[.pointer (some ⟨k.ce, 0, none⟩), .int .i64 ep, .int .i64 li] w fun e w' => e = .returned (terr s (putE x.off x.y ep li).1) ∧ Nd w0 w' k { x with y := (putE x.off x.y ep li).2.1, off := (putE x.off x.y ep li).2.2 } m n ∧ ChgL k.all w w' := by
  have hg := tlt S.c6
  have h1 := h.g0 _ k.m_yb
  have h2 := h.g0 _ k.m_ce
  simp only at hg
  refine (cput_any k.ce k.yb x.off x.y ep li s w h.ce h.yb (S.below h.bl).s5 h.ds.d3.1 (by omega) (by omega) h.lf).mono ?_
  rintro e w' ⟨rfl, t, u, c⟩
  exact ⟨rfl, h.onCe t u (Nat.le_trans (putE_left _ _ _ _) h.lf) c, ChgL.two c k.m_yb k.m_ce⟩
theorem tput_nd {w0 w : World} {k : Bk} {x : No} {m n : Nat} {s : Nat → Addr} (S : SeN w0 s) (h : Nd w0 w k x m n) (hm : m ≤ 1000000000) (c : Ce) (h1 : In6 c.pr) (h2 : In6 c.st) :
    Calls Tryd.prog 62 #[.pointer (some ⟨k.tb, 0, none⟩), flowV c] w fun e w' => (∃ v, e = .returned v) ∧ Nd w0 w' k { x with T := (putT x.T c.pr c.ia c.ip c.fa c.fp c.po c.st c.un).2.2 } (m + 1) n ∧ ChgL k.all w w' := by
  refine (put_an2 k.tb x.low x.T c m s w (S.below h.bl).s45 h.tb h.vs hm).mono ?_
  rintro e w' ⟨rfl, t, q⟩
  exact ⟨⟨_, rfl⟩, h.onTb t (h.vs.put _ _ _ _ _ _ _ _) (h.wt.put _ _ _ _ _ _ _ _ h1 h2) q, ChgL.one q k.m_tb⟩
theorem tnext_nd {w0 w : World} {k : Bk} {x : No} {m n : Nat} (h : Nd w0 w k x m n) (hm : m ≤ 1000000000) (hn : n ≤ 100000000) :
    Calls Tryd.prog 46 #[.pointer (some ⟨k.te, 0, none⟩)] w fun e w' => (∃ Z, e = .returned (.slice (some ⟨Z, 0, none⟩) 8 8) ∧ w.heap.size ≤ Z ∧ RowsB w' Z x.T (nxL x.T x.D x.cu)) ∧ Nd w0 w' k { x with D := toldD x.T x.D (nxL x.T x.D x.cu), cu := nxC x.T x.D x.cu } m (n + 8) ∧ ChgL k.all w w' := by
  refine (tnext_any k.te k.tb k.mp n x.cu m x.low x.T x.D w h.te h.tb h.vs hm hn).mono ?_
  rintro e w' ⟨Z, L, c', hx, rfl, hz, hr, hh, hg⟩
  obtain ⟨rfl, rfl⟩ := hx.one (nx_spec x.T x.D x.cu)
  exact ⟨⟨Z, rfl, hz, hr⟩, h.onTe hh hg, ChgL.two hg k.m_te k.m_mp⟩
theorem mflows_nd {w0 w : World} {k : Bk} {x : No} {m n : Nat} (h : Nd w0 w k x m n) :
    Calls Tryd.prog 61 #[.pointer (some ⟨k.mi, 0, none⟩)] w fun e w' => (∃ v, e = .returned v ∧ w'.ownsRow w.heap.size 77 8 v (flL x.mt 32).length (flCs (flL x.mt 32))) ∧ Nd w0 w' k x m n ∧ ChgL k.all w w' := by
  refine (mflows_any k.mi x.ml x.mt w h.mi).mono ?_
  rintro e w' ⟨h1, c⟩
  exact ⟨h1, h.below c, ChgL.of c⟩
theorem Nd.c0 {w0 w : World} {k : Bk} {x : No} {m n : Nat} (h : Nd w0 w k x m n) : w.cell? ⟨k.nd, 0, none⟩ = some (.pointer (some ⟨k.ro, 0, none⟩)) := h.nd.c 0
theorem Nd.c1 {w0 w : World} {k : Bk} {x : No} {m n : Nat} (h : Nd w0 w k x m n) : w.cell? ⟨k.nd, 1, none⟩ = some (.int .i64 x.id) := h.nd.c 1
theorem Nd.c2 {w0 w : World} {k : Bk} {x : No} {m n : Nat} (h : Nd w0 w k x m n) : w.cell? ⟨k.nd, 2, none⟩ = some (.int .i64 x.life) := h.nd.c 2
theorem Nd.c3 {w0 w : World} {k : Bk} {x : No} {m n : Nat} (h : Nd w0 w k x m n) : w.cell? ⟨k.nd, 3, none⟩ = some (.int .i64 x.now) := h.nd.c 3
theorem Nd.c4 {w0 w : World} {k : Bk} {x : No} {m n : Nat} (h : Nd w0 w k x m n) : w.cell? ⟨k.nd, 4, none⟩ = some (.slice k.rp x.ru.length k.rc) := h.nd.c 4
theorem Nd.c5 {w0 w : World} {k : Bk} {x : No} {m n : Nat} (h : Nd w0 w k x m n) : w.cell? ⟨k.nd, 5, none⟩ = some (.pointer (some ⟨k.ce, 0, none⟩)) := h.nd.c 5
theorem Nd.c6 {w0 w : World} {k : Bk} {x : No} {m n : Nat} (h : Nd w0 w k x m n) : w.cell? ⟨k.nd, 6, none⟩ = some (.pointer (some ⟨k.te, 0, none⟩)) := h.nd.c 6
theorem Nd.c7 {w0 w : World} {k : Bk} {x : No} {m n : Nat} (h : Nd w0 w k x m n) : w.cell? ⟨k.nd, 7, none⟩ = some (.pointer (some ⟨k.mi, 0, none⟩)) := h.nd.c 7
theorem Nd.t0 {w0 w : World} {k : Bk} {x : No} {m n : Nat} (h : Nd w0 w k x m n) : w.cell? ⟨k.te, 0, none⟩ = some (.pointer (some ⟨k.tb, 0, none⟩)) := h.te.c0
theorem Nd.drew {w0 w : World} {k : Bk} {x : No} {m n : Nat} (h : Nd w0 w k x m n) : Nd w0 w.drew k x m n := h.below (Below.refl _ _).drew
end Go.Proofs.YtjfhompbeengmaaDoor
