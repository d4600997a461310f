/-
  Texts in one: RoM GeP GeD RoA RoB.
-/
import Derived.Test.YtjfhompbeengmaaDoorProg
import Derived.WalkKit
import Derived.Below
import Derived.BigQuiet
import Derived.RegionTactic
import Derived.Deep.RegionWith
import Derived.Laws.Rows
import Derived.Deep.WholeRow
namespace Go.Proofs.YtjfhompbeengmaaDoor

/-- a role: its node, the greatest epoch that it knows, its silence, is it active. -/
structure Ro where
  nd : Int
  ep : Int
  si : Int
  ac : Bool
/-- its numbers are as they should be. -/
structure Ro.Ok (r : Ro) : Prop where
  n : r.nd = 0 ∨ r.nd = 1
  e0 : 0 ≤ r.ep
  e1 : r.ep ≤ 1073741824
  s0 : 0 ≤ r.si
  s1 : r.si ≤ 10
def isEpR (n : Int) : Bool := decide (0 ≤ n) && decide (n ≤ 1073741824)
theorem isEpR_iff {n : Int} : isEpR n = true ↔ 0 ≤ n ∧ n ≤ 1073741824 := by unfold isEpR; simp
def Ro.new (nd ep : Int) : Ro := ⟨nd, ep, 0, false⟩
def Ro.tickS (r : Ro) : Int := if r.si ≤ 9 then r.si + 1 else r.si
def Ro.tick (r : Ro) : Ro := if r.ac then r else ⟨r.nd, r.ep, r.tickS, false⟩
def Ro.rings (r : Ro) : Bool := if r.ac then false else decide (9 < r.tickS)
/-- the next epoch, however great. -/
def Ro.nx (r : Ro) : Int := if (r.ep + 1) % 2 = r.nd then r.ep + 1 else r.ep + 2
def Ro.nxE (r : Ro) : Nat := if 1073741824 < r.nx then 2 else 0
def Ro.nxV (r : Ro) : Int := if 1073741824 < r.nx then 0 else r.nx
def Ro.clE (r : Ro) (n : Int) : Nat := if r.ac then 11 else if 1073741824 < r.nx then 2 else if n = r.nx then 0 else 3
def Ro.claim (r : Ro) (n : Int) : Ro := if r.clE n = 0 then ⟨r.nd, n, r.si, true⟩ else r
def Ro.heard (r : Ro) (n : Int) : Bool := isEpR n && !decide (n < r.ep)
def Ro.falls (r : Ro) (n : Int) : Bool := r.heard n && (r.ac && decide (r.ep < n))
def Ro.hear (r : Ro) (n : Int) : Ro := if r.heard n then ⟨r.nd, n, 0, r.ac && !decide (r.ep < n)⟩ else r
theorem Ro.Ok.new {nd ep : Int} (h : nd = 0 ∨ nd = 1) (h0 : 0 ≤ ep) (h1 : ep ≤ 1073741824) : (Ro.new nd ep).Ok := ⟨h, h0, h1, Int.le_refl _, by show (0 : Int) ≤ 10; omega⟩
theorem Ro.Ok.tick {r : Ro} (h : r.Ok) : r.tick.Ok := by
  obtain ⟨hn, h0, h1, h2, h3⟩ := h
  unfold Ro.tick
  split
  · exact ⟨hn, h0, h1, h2, h3⟩
  · refine ⟨hn, h0, h1, ?_, ?_⟩ <;> (show _ ≤ _; simp only [Ro.tickS]; split <;> omega)
theorem Ro.nx_lt {r : Ro} : r.ep < r.nx ∧ r.nx ≤ r.ep + 2 := by unfold Ro.nx; split <;> omega
theorem Ro.nx_par {r : Ro} (h : r.Ok) : r.nx % 2 = r.nd := by
  have := h.n
  unfold Ro.nx; split <;> omega
theorem Ro.Ok.claim {r : Ro} (h : r.Ok) (n : Int) : (r.claim n).Ok := by
  obtain ⟨hn, h0, h1, h2, h3⟩ := h
  have := r.nx_lt
  unfold Ro.claim
  split
  · rename_i hc
    have hx : n = r.nx ∧ r.nx ≤ 1073741824 := by
      unfold Ro.clE at hc
      split at hc
      · cases hc
      · split at hc
        · cases hc
        · split at hc
          · exact ⟨by assumption, by omega⟩
          · cases hc
    exact ⟨hn, by show 0 ≤ n; omega, by show n ≤ _; omega, h2, h3⟩
  · exact ⟨hn, h0, h1, h2, h3⟩
theorem Ro.Ok.hear {r : Ro} (h : r.Ok) (n : Int) : (r.hear n).Ok := by
  unfold Ro.hear
  split
  · rename_i hh
    have : isEpR n = true := by
      unfold Ro.heard at hh
      simp at hh; exact hh.1
    obtain ⟨k0, k1⟩ := isEpR_iff.1 this
    exact ⟨h.n, k0, k1, Int.le_refl _, by show (0 : Int) ≤ 10; omega⟩
  · exact h
end Go.Proofs.YtjfhompbeengmaaDoor

namespace Go.Proofs.YtjfhompbeengmaaDoor
open Go.RowKit

theorem wpList_load_at {P : Program} {ops : Array Oper} {rest : List Oper} {o : Oper} {a : Act} {w : World} {Q : Exit → Act → World → Prop} (hgd : o.guard = none) (ty : TypeId) (x : Operand) (ho : o.op = .load ty x)
    (u v : Value) (hx : a.eval x = u) (hl : (Instr.loadAt ty u).run P w = .ok v w) (h : wpList P ops Q rest (a.put o.dst v) w) : wpList P ops Q (o :: rest) a w :=
  wpList_plain hgd fun K hK => by
    unfold Oper.wp execOp
    simp only [ho, hx, Sem.run_bind, hl, Result.andThen_ok, Sem.run_pure]
    exact hK _ _ h

theorem tlt {w : World} {a : Addr} {v : Value} (hc : w.cell? a = some v) : a.block < w.heap.size := by
  rcases Nat.lt_or_ge a.block w.heap.size with h | h
  · exact h
  · simp [World.cell?, Array.getElem?_eq_none h] at hc
theorem tk {w w' : World} (h : Below w.heap.size w w') {a : Addr} {v : Value} (hc : w.cell? a = some v) : w'.cell? a = some v := by
  rw [h.cell (p := a) (tlt hc)]; exact hc
theorem t2 {a b c : World} (h : Below a.heap.size a b) (k : Below b.heap.size b c) : Below a.heap.size a c := h.trans (k.mono h.size)
theorem nw (w : World) (cs : Array Value) (t : TypeId) (j : Nat) : (w.alloc (.cells cs t)).cell? ⟨w.heap.size, j, none⟩ = cs[j]? := cell_of_row _ _ _ _ _ _ (heap_alloc_new w _)

/-- all but block b is as it was. -/
structure Chg (b : Nat) (w w' : World) : Prop where
  os : w'.os = w.os
  tape : w'.tape = w.tape
  output : w'.output = w.output
  size : w.heap.size ≤ w'.heap.size
  block : ∀ k, k < w.heap.size → k ≠ b → w'.heap[k]? = w.heap[k]?
theorem Chg.of {b : Nat} {w w' : World} (h : Below w.heap.size w w') : Chg b w w' := ⟨h.os, h.tape, h.output, h.size, fun k hk _ => h.block k hk⟩
theorem Chg.trans {b : Nat} {u v w : World} (h : Chg b u v) (k : Chg b v w) : Chg b u w :=
  ⟨k.os.trans h.os, k.tape.trans h.tape, k.output.trans h.output, Nat.le_trans h.size k.size, fun i hi hn => (k.block i (Nat.lt_of_lt_of_le hi h.size) hn).trans (h.block i hi hn)⟩
theorem Chg.refl (b : Nat) (w : World) : Chg b w w := Chg.of (Below.refl _ _)
theorem Chg.then {b : Nat} {u v w : World} (h : Chg b u v) (k : Below v.heap.size v w) : Chg b u w := h.trans (Chg.of k)
theorem Chg.set (b j : Nat) (w : World) (u : Value) : Chg b w (w.setCell ⟨b, j, none⟩ u) :=
  ⟨rfl, rfl, rfl, by simp [World.setCell], fun k _ hn => Below.heap_setCell _ _ _ _ hn⟩
theorem Chg.below {b : Nat} {w0 w w' : World} (h : Below w0.heap.size w0 w) (k : Chg b w w') (hb : w0.heap.size ≤ b) : Below w0.heap.size w0 w' :=
  h.trans ⟨k.os, k.tape, k.output, k.size, fun i hi => k.block i (Nat.lt_of_lt_of_le hi h.size) (by omega)⟩
theorem Chg.keeps {b : Nat} {w w' : World} (h : Chg b w w') {a : Addr} {v : Value} (hn : a.block ≠ b) (hc : w.cell? a = some v) : w'.cell? a = some v := by
  rw [World.cell?_of_block (w := w) (h.block a.block (tlt hc) hn)]; exact hc

/-- an error by its number: 0: none; else a sentinel of package api. -/
def terr (s : Nat → Addr) : Nat → Value
  | 0 => .nilIface
  | k + 1 => .iface 161 (.pointer (some (s k)))
theorem aB (w : World) (o : Obj) : Below w.heap.size w (w.alloc o) := (Below.refl _ _).alloc (Nat.le_refl _) _

end Go.Proofs.YtjfhompbeengmaaDoor

namespace Go.Proofs.YtjfhompbeengmaaDoor
open Go.RowKit

theorem frozen_of_block {w w' : World} {a : Addr} (h : w'.heap[a.block]? = w.heap[a.block]?) : w'.frozen? a = w.frozen? a := by
  unfold World.frozen?; rw [h]
/-- all but two blocks is as it was. -/
structure Chg2 (m g : Nat) (w w' : World) : Prop where
  os : w'.os = w.os
  tape : w'.tape = w.tape
  output : w'.output = w.output
  size : w.heap.size ≤ w'.heap.size
  block : ∀ k, k < w.heap.size → k ≠ m → k ≠ g → w'.heap[k]? = w.heap[k]?
theorem Chg2.refl (m g : Nat) (w : World) : Chg2 m g w w := ⟨rfl, rfl, rfl, Nat.le_refl _, fun _ _ _ _ => rfl⟩
theorem Chg2.then {m g : Nat} {w v v' : World} (h : Chg2 m g w v) (k : Below v.heap.size v v') : Chg2 m g w v' :=
  ⟨k.os.trans h.os, k.tape.trans h.tape, k.output.trans h.output, Nat.le_trans h.size k.size, fun i hi h1 h2 => (k.block i (Nat.lt_of_lt_of_le hi h.size)).trans (h.block i hi h1 h2)⟩
theorem Chg2.on {m g b : Nat} {w v v' : World} (h : Chg2 m g w v) (k : Chg b v v') (hb : b = m ∨ b = g ∨ w.heap.size ≤ b) : Chg2 m g w v' :=
  ⟨k.os.trans h.os, k.tape.trans h.tape, k.output.trans h.output, Nat.le_trans h.size k.size, fun i hi h1 h2 => (k.block i (Nat.lt_of_lt_of_le hi h.size) (fun e => by
    rcases hb with rfl | rfl | hb
    · exact h1 e
    · exact h2 e
    · omega)).trans (h.block i hi h1 h2)⟩
theorem Chg2.keeps {m g : Nat} {w w' : World} (h : Chg2 m g w w') {a : Addr} {v : Value} (h1 : a.block ≠ m) (h2 : a.block ≠ g) (hc : w.cell? a = some v) : w'.cell? a = some v := by
  rw [World.cell?_of_block (w := w) (h.block a.block (tlt hc) h1 h2)]; exact hc
theorem Chg2.below {m g : Nat} {w0 w w' : World} (h : Below w0.heap.size w0 w) (k : Chg2 m g w w') (h1 : w0.heap.size ≤ m) (h2 : w0.heap.size ≤ g) : Below w0.heap.size w0 w' :=
  h.trans ⟨k.os, k.tape, k.output, k.size, fun i hi => k.block i (Nat.lt_of_lt_of_le hi h.size) (by omega) (by omega)⟩
theorem Chg2.trans {m g : Nat} {u v w : World} (h : Chg2 m g u v) (k : Chg2 m g v w) : Chg2 m g u w :=
  ⟨k.os.trans h.os, k.tape.trans h.tape, k.output.trans h.output, Nat.le_trans h.size k.size, fun i hi h1 h2 => (k.block i (Nat.lt_of_lt_of_le hi h.size) h1 h2).trans (h.block i hi h1 h2)⟩
theorem Chg2.of {m g : Nat} {w w' : World} (h : Below w.heap.size w w') : Chg2 m g w w' := (Chg2.refl m g w).then h
theorem chg_grown {b : Nat} {w w' : World} (h : w.grownBy w' (some b)) : Chg b w w' := ⟨h.os, h.tape, h.output, h.size, fun k hk hn => h.block k hk (by simpa using hn)⟩
end Go.Proofs.YtjfhompbeengmaaDoor

namespace Go.Proofs.YtjfhompbeengmaaDoor
open Go.RowKit

/-- three sentinels: ErrBound, ErrShape, ErrHeld. -/
structure Se3 (w : World) (s : Nat → Addr) : Prop where
  c1 : w.cell? ⟨0, 0, none⟩ = some (.iface 161 (.pointer (some (s 1))))
  c2 : w.cell? ⟨1, 0, none⟩ = some (.iface 161 (.pointer (some (s 2))))
  c10 : w.cell? ⟨7, 0, none⟩ = some (.iface 161 (.pointer (some (s 10))))
theorem Se3.below {w w' : World} {s : Nat → Addr} (S : Se3 w s) (hb : Below w.heap.size w w') : Se3 w' s := ⟨tk hb S.c1, tk hb S.c2, tk hb S.c10⟩
/-- a role in memory. -/
def Rol (w : World) (b : Nat) (r : Ro) : Prop := w.heap[b]? = some (.cells #[.int .i64 r.nd, .int .i64 r.ep, .int .i64 r.si, .bool r.ac] 84 (0, 0))
theorem Rol.lt {w : World} {b : Nat} {r : Ro} (h : Rol w b r) : b < w.heap.size := by
  rcases Nat.lt_or_ge b w.heap.size with h1 | h1
  · exact h1
  · rw [Rol, Array.getElem?_eq_none h1] at h; cases h
theorem Rol.below {w w' : World} {b : Nat} {r : Ro} (h : Rol w b r) (hb : Below w.heap.size w w') : Rol w' b r := by unfold Rol; rw [hb.block b h.lt]; exact h
theorem Rol.chg {w w' : World} {b d : Nat} {r : Ro} (h : Rol w b r) (hb : Chg d w w') (hn : b ≠ d) : Rol w' b r := by unfold Rol; rw [hb.block b h.lt hn]; exact h
theorem Rol.c0 {w : World} {b : Nat} {r : Ro} (h : Rol w b r) : w.cell? ⟨b, 0, none⟩ = some (.int .i64 r.nd) := (cell_of_row w b _ _ _ _ h).trans rfl
theorem Rol.c1 {w : World} {b : Nat} {r : Ro} (h : Rol w b r) : w.cell? ⟨b, 1, none⟩ = some (.int .i64 r.ep) := (cell_of_row w b _ _ _ _ h).trans rfl
theorem Rol.c2 {w : World} {b : Nat} {r : Ro} (h : Rol w b r) : w.cell? ⟨b, 2, none⟩ = some (.int .i64 r.si) := (cell_of_row w b _ _ _ _ h).trans rfl
theorem Rol.c3 {w : World} {b : Nat} {r : Ro} (h : Rol w b r) : w.cell? ⟨b, 3, none⟩ = some (.bool r.ac) := (cell_of_row w b _ _ _ _ h).trans rfl
theorem Rol.fr {w : World} {b : Nat} {r : Ro} (h : Rol w b r) (i : Nat) : w.frozen? ⟨b, i, none⟩ = false := frozen_of_row w b i _ _ h
theorem Rol.ep {w : World} {b : Nat} {r : Ro} (h : Rol w b r) (x : Int) : Rol (w.setCell ⟨b, 1, none⟩ (.int .i64 x)) b ⟨r.nd, x, r.si, r.ac⟩ := by unfold Rol; rw [heap_setCell_same w b _ _ _ _ h]; rfl
theorem Rol.si {w : World} {b : Nat} {r : Ro} (h : Rol w b r) (x : Int) : Rol (w.setCell ⟨b, 2, none⟩ (.int .i64 x)) b ⟨r.nd, r.ep, x, r.ac⟩ := by unfold Rol; rw [heap_setCell_same w b _ _ _ _ h]; rfl
theorem Rol.ac {w : World} {b : Nat} {r : Ro} (h : Rol w b r) (x : Bool) : Rol (w.setCell ⟨b, 3, none⟩ (.bool x)) b ⟨r.nd, r.ep, r.si, x⟩ := by unfold Rol; rw [heap_setCell_same w b _ _ _ _ h]; rfl

theorem isEpochR_any (n : Int) (w : World) : Calls Tryd.prog 35 #[.int .i64 n] w fun e w' => e = .returned (.bool (isEpR n)) ∧ w' = w := by
  by_cases h : 0 ≤ n
  · have HE : Hid (isEpR n = decide (n ≤ 1073741824)) := by unfold isEpR; rw [decide_eq_true h]; exact rfl
    go_enter Tryd.func35, Tryd.ntmps35
    go_wp2_with fail
    go_ret
    exact ⟨by rw [HE.out]; rfl, rfl⟩
  · have HE : Hid (isEpR n = false) := by unfold isEpR; rw [decide_eq_false h]; exact rfl
    go_enter Tryd.func35, Tryd.ntmps35
    go_wp2_with fail
    go_ret
    exact ⟨by rw [HE.out]; rfl, rfl⟩
theorem active_any (b : Nat) (r : Ro) (w : World) (R : Rol w b r) : Calls Tryd.prog 12 #[.pointer (some ⟨b, 0, none⟩)] w fun e w' => e = .returned (.bool r.ac) ∧ w' = w := by
  have c3 := R.c3
  clear R
  go_enter Tryd.func12, Tryd.ntmps12
  go_wp2_with fail
  go_ret
  exact ⟨rfl, rfl⟩
theorem epochR_any (b : Nat) (r : Ro) (w : World) (R : Rol w b r) : Calls Tryd.prog 13 #[.pointer (some ⟨b, 0, none⟩)] w fun e w' => e = .returned (.int .i64 r.ep) ∧ w' = w := by
  have c1 := R.c1
  clear R
  go_enter Tryd.func13, Tryd.ntmps13
  go_wp2_with fail
  go_ret
  exact ⟨rfl, rfl⟩
set_option maxRecDepth 100000 in
set_option maxHeartbeats 2000000 in
theorem tick_any (b : Nat) (r : Ro) (w : World) (R : Rol w b r) (K : r.Ok) : Calls Tryd.prog 26 #[.pointer (some ⟨b, 0, none⟩)] w fun e w' => e = .returned (.bool r.rings) ∧ Rol w' b r.tick ∧ Chg b w w' := by
  obtain ⟨nd, ep, si, ac⟩ := r
  have HR : Hid (Rol w b ⟨nd, ep, si, ac⟩) := R
  have k0 : 0 ≤ si := K.s0
  have k1 : si ≤ 10 := K.s1
  have c2 := R.c2
  have c3 := R.c3
  have f2 := R.fr 2
  clear R K
  simp only at c2 c3
  cases ac
  · by_cases h9 : si ≤ 9
    · have HG : Hid ((⟨nd, ep, si, false⟩ : Ro).rings = decide (9 < si + 1)) := by show (if false = true then false else decide (9 < (if si ≤ 9 then si + 1 else si))) = _; rw [if_pos h9]; rfl
      have HQ : Hid ((⟨nd, ep, si, false⟩ : Ro).tick = ⟨nd, ep, si + 1, false⟩) := by show (if false = true then _ else (⟨nd, ep, if si ≤ 9 then si + 1 else si, false⟩ : Ro)) = _; rw [if_pos h9]; rfl
      have hw : IntKind.i64.wrap (si + 1) = si + 1 := by rw [IntKind.wrap_i64]; omega
      have hc := World.cell?_setCell_same w ⟨b, 2, none⟩ (.int .i64 (si + 1)) c2
      go_enter Tryd.func26, Tryd.ntmps26
      go_wp2_with fail
      go_ret
      exact ⟨by rw [HG.out]; rfl, by rw [HQ.out]; exact HR.out.si _, Chg.set _ _ _ _⟩
    · have HG : Hid ((⟨nd, ep, si, false⟩ : Ro).rings = true) := by show (if false = true then false else decide (9 < (if si ≤ 9 then si + 1 else si))) = _; rw [if_neg h9]; simp; omega
      have HQ : Hid ((⟨nd, ep, si, false⟩ : Ro).tick = ⟨nd, ep, si, false⟩) := by show (if false = true then _ else (⟨nd, ep, if si ≤ 9 then si + 1 else si, false⟩ : Ro)) = _; rw [if_neg h9]; rfl
      go_enter Tryd.func26, Tryd.ntmps26
      go_wp2_with fail
      go_ret
      exact ⟨by rw [HG.out]; rfl, by rw [HQ.out]; exact HR.out, Chg.refl _ _⟩
  · go_enter Tryd.func26, Tryd.ntmps26
    go_wp2_with fail
    go_ret
    exact ⟨rfl, HR.out, Chg.refl _ _⟩
theorem newR_bad (nd ep : Int) (s : Nat → Addr) (w : World) (S : Se3 w s) (h : (nd ≠ 0 ∧ nd ≠ 1) ∨ isEpR ep = false) :
    Calls Tryd.prog 18 #[.int .i64 nd, .int .i64 ep] w fun e w' => e = .returned (.tuple #[.pointer none, terr s 2]) ∧ Below w.heap.size w w' := by
  have c1 := S.c1
  clear S
  by_cases hn : nd ≠ 0 ∧ nd ≠ 1
  · obtain ⟨h0, h1⟩ := hn
    clear h
    go_enter Tryd.func18, Tryd.ntmps18
    go_wp2_with fail
    go_region
    go_wp2_with fail
    go_ret2
    exact ⟨rfl, (Below.refl _ _).drew⟩
  · have he : isEpR ep = false := h.resolve_left hn
    have HP : Hid (isEpR ep = false) := he
    have hnd : nd = 0 ∨ nd = 1 := by omega
    clear h hn he
    rcases hnd with rfl | rfl
    all_goals
      go_enter Tryd.func18, Tryd.ntmps18
      go_wp2_with fail
      refine (isEpochR_any ep w).mono ?_
      rintro e w' ⟨rfl, rfl⟩
      rw [HP.out]
      go_wp2_with fail
      go_region
      go_wp2_with fail
      go_ret2
      exact ⟨rfl, (Below.refl _ _).drew⟩
theorem newR_ok (nd ep : Int) (w : World) (h : nd = 0 ∨ nd = 1) (h0 : 0 ≤ ep) (h1 : ep ≤ 1073741824) :
    Calls Tryd.prog 18 #[.int .i64 nd, .int .i64 ep] w fun e w' => (e = .returned (.tuple #[.pointer (some ⟨w.heap.size, 0, none⟩), .nilIface]) ∧ Rol w' w.heap.size (Ro.new nd ep)) ∧ Below w.heap.size w w' := by
  have HP : Hid (isEpR ep = true) := isEpR_iff.2 ⟨h0, h1⟩
  clear h0 h1
  rcases h with rfl | rfl
  all_goals
    go_enter Tryd.func18, Tryd.ntmps18
    go_wp2_with fail
    refine (isEpochR_any ep w).mono ?_
    rintro e w' ⟨rfl, rfl⟩
    rw [HP.out]
    go_wp2_with fail
    go_ret2
    exact ⟨⟨rfl, heap_alloc_new _ _⟩, aB _ _⟩
theorem tmod2 {n : Int} (h : 0 ≤ n) : Int.tmod n 2 = n % 2 := Int.tmod_eq_emod_of_nonneg h
set_option maxRecDepth 100000 in
set_option maxHeartbeats 2000000 in
theorem next_any (b : Nat) (r : Ro) (s : Nat → Addr) (w : World) (R : Rol w b r) (K : r.Ok) (S : Se3 w s) :
    Calls Tryd.prog 42 #[.pointer (some ⟨b, 0, none⟩)] w fun e w' => e = .returned (.tuple #[.int .i64 r.nxV, terr s r.nxE]) ∧ Below w.heap.size w w' := by
  obtain ⟨nd, ep, si, ac⟩ := r
  have k0 : 0 ≤ ep := K.e0
  have k1 : ep ≤ 1073741824 := K.e1
  have g0 : w.cell? ⟨b, 0, none⟩ = some (.int .i64 nd) := R.c0
  have g1 : w.cell? ⟨b, 1, none⟩ = some (.int .i64 ep) := R.c1
  have c1 := S.c1
  clear R K S
  have hw : IntKind.i64.wrap (ep + 1) = ep + 1 := by rw [IntKind.wrap_i64]; omega
  have hw2 : IntKind.i64.wrap (ep + 1 + 1) = ep + 2 := by rw [IntKind.wrap_i64]; omega
  have hm := tmod2 (n := ep + 1) (by omega)
  have HP : ∀ x : Int, Hid ((⟨nd, ep, si, ac⟩ : Ro).nx = x) → 0 ≤ x → Hid (isEpR x = !decide (1073741824 < x)) := fun x _ h => by
    show (decide (0 ≤ x) && decide (x ≤ 1073741824)) = _
    rw [decide_eq_true h, Bool.true_and]
    by_cases h2 : 1073741824 < x
    · rw [decide_eq_true h2, decide_eq_false (by omega)]; rfl
    · rw [decide_eq_false h2, decide_eq_true (by omega)]; rfl
  by_cases hp : (ep + 1) % 2 = nd
  · have HX : Hid ((⟨nd, ep, si, ac⟩ : Ro).nx = ep + 1) := by show (if _ then _ else _) = _; rw [if_pos hp]
    have HQ := HP _ HX (by omega)
    clear HP
    have hne : ((ep + 1) % 2 == nd) = true := beq_iff_eq.2 hp
    by_cases h2 : 1073741824 < ep + 1
    · have HV : Hid ((⟨nd, ep, si, ac⟩ : Ro).nxV = 0 ∧ (⟨nd, ep, si, ac⟩ : Ro).nxE = 2) := by show _ ∧ _; unfold Ro.nxV Ro.nxE; rw [HX.out, if_pos h2, if_pos h2]; exact ⟨rfl, rfl⟩
      rw [decide_eq_true h2] at HQ
      go_enter Tryd.func42, Tryd.ntmps42
      go_wp2_with fail
      refine (isEpochR_any _ w).mono ?_
      rintro e w' ⟨rfl, rfl⟩
      rw [HQ.out]
      go_wp2_with fail
      go_region
      go_wp2_with fail
      go_ret2
      exact ⟨by rw [HV.out.1, HV.out.2]; rfl, (Below.refl _ _).drew⟩
    · have HV : Hid ((⟨nd, ep, si, ac⟩ : Ro).nxV = ep + 1 ∧ (⟨nd, ep, si, ac⟩ : Ro).nxE = 0) := by show _ ∧ _; unfold Ro.nxV Ro.nxE; rw [HX.out, if_neg h2, if_neg h2]; exact ⟨rfl, rfl⟩
      rw [decide_eq_false h2] at HQ
      go_enter Tryd.func42, Tryd.ntmps42
      go_wp2_with fail
      refine (isEpochR_any _ w).mono ?_
      rintro e w' ⟨rfl, rfl⟩
      rw [HQ.out]
      go_wp2_with fail
      go_ret2
      exact ⟨by rw [HV.out.1, HV.out.2]; rfl, Below.refl _ _⟩
  · have HX : Hid ((⟨nd, ep, si, ac⟩ : Ro).nx = ep + 2) := by show (if _ then _ else _) = _; rw [if_neg hp]
    have HQ := HP _ HX (by omega)
    clear HP
    have hne : ((ep + 1) % 2 == nd) = false := beq_eq_false_iff_ne.2 hp
    by_cases h2 : 1073741824 < ep + 2
    · have HV : Hid ((⟨nd, ep, si, ac⟩ : Ro).nxV = 0 ∧ (⟨nd, ep, si, ac⟩ : Ro).nxE = 2) := by show _ ∧ _; unfold Ro.nxV Ro.nxE; rw [HX.out, if_pos h2, if_pos h2]; exact ⟨rfl, rfl⟩
      rw [decide_eq_true h2] at HQ
      go_enter Tryd.func42, Tryd.ntmps42
      go_wp2_with fail
      refine (isEpochR_any _ w).mono ?_
      rintro e w' ⟨rfl, rfl⟩
      rw [HQ.out]
      go_wp2_with fail
      go_region
      go_wp2_with fail
      go_ret2
      exact ⟨by rw [HV.out.1, HV.out.2]; rfl, (Below.refl _ _).drew⟩
    · have HV : Hid ((⟨nd, ep, si, ac⟩ : Ro).nxV = ep + 2 ∧ (⟨nd, ep, si, ac⟩ : Ro).nxE = 0) := by show _ ∧ _; unfold Ro.nxV Ro.nxE; rw [HX.out, if_neg h2, if_neg h2]; exact ⟨rfl, rfl⟩
      rw [decide_eq_false h2] at HQ
      go_enter Tryd.func42, Tryd.ntmps42
      go_wp2_with fail
      refine (isEpochR_any _ w).mono ?_
      rintro e w' ⟨rfl, rfl⟩
      rw [HQ.out]
      go_wp2_with fail
      go_ret2
      exact ⟨by rw [HV.out.1, HV.out.2]; rfl, Below.refl _ _⟩
end Go.Proofs.YtjfhompbeengmaaDoor

namespace Go.Proofs.YtjfhompbeengmaaDoor
open Go.RowKit

set_option maxRecDepth 100000 in
set_option maxHeartbeats 2000000 in
theorem claim_any (b : Nat) (r : Ro) (n : Int) (s : Nat → Addr) (w : World) (R : Rol w b r) (K : r.Ok) (S : Se3 w s) :
    Calls Tryd.prog 44 #[.pointer (some ⟨b, 0, none⟩), .int .i64 n] w fun e w' => e = .returned (terr s (r.clE n)) ∧ Rol w' b (r.claim n) ∧ Chg b w w' := by
  have HR : Hid (Rol w b r) := R
  have HK : Hid r.Ok := K
  have HS : Hid (Se3 w s) := S
  clear R K S
  cases ha : r.ac
  · by_cases h2 : 1073741824 < r.nx
    · have HE : Hid (r.clE n = 2) := by show _ = _; unfold Ro.clE; rw [ha, if_neg (by simp), if_pos h2]
      have HQ : Hid (r.claim n = r) := by show _ = _; unfold Ro.claim; rw [HE.out]; rfl
      have HV : Hid (r.nxV = 0 ∧ r.nxE = 2) := by show _ ∧ _; unfold Ro.nxV Ro.nxE; rw [if_pos h2, if_pos h2]; exact ⟨rfl, rfl⟩
      have HA : Hid (r.ac = false) := ha
      clear ha h2
      go_enter Tryd.func44, Tryd.ntmps44
      go_wp2_with fail
      refine (active_any b r w HR.out).mono ?_
      rintro e w1 ⟨rfl, rfl⟩
      rw [HA.out]
      go_wp2_with fail
      refine (next_any b r s _ HR.out HK.out HS.out).mono ?_
      rintro e w2 ⟨rfl, hb⟩
      have B2 : Hid (Below w1.heap.size w1 w2) := hb
      clear hb
      rw [HV.out.1, HV.out.2]
      simp only [terr]
      go_wp2_with fail
      go_ret
      exact ⟨by rw [HE.out]; rfl, by rw [HQ.out]; exact HR.out.below B2.out, Chg.of B2.out⟩
    · have HV : Hid (r.nxV = r.nx ∧ r.nxE = 0) := by show _ ∧ _; unfold Ro.nxV Ro.nxE; rw [if_neg h2, if_neg h2]; exact ⟨rfl, rfl⟩
      by_cases hn : n = r.nx
      · have HE : Hid (r.clE n = 0) := by show _ = _; unfold Ro.clE; rw [ha, if_neg (by simp), if_neg h2, if_pos hn]
        have HQ : Hid (r.claim n = ⟨r.nd, n, r.si, true⟩) := by show _ = _; unfold Ro.claim; rw [HE.out]; rfl
        have HA : Hid (r.ac = false) := ha
        have HN : Hid (r.nx = n) := hn.symm
        clear ha h2 hn
        go_enter Tryd.func44, Tryd.ntmps44
        go_wp2_with fail
        refine (active_any b r w HR.out).mono ?_
        rintro e w1 ⟨rfl, rfl⟩
        rw [HA.out]
        go_wp2_with fail
        refine (next_any b r s _ HR.out HK.out HS.out).mono ?_
        rintro e w2 ⟨rfl, hb⟩
        have B2 : Hid (Below w1.heap.size w1 w2) := hb
        clear hb
        rw [HV.out.1, HV.out.2, HN.out]
        simp only [terr]
        have R2 : Hid (Rol w2 b r) := HR.out.below B2.out
        have c1 := R2.out.c1
        have c3 := R2.out.c3
        have f1 := R2.out.fr 1
        have f3 := R2.out.fr 3
        go_wp2_with fail
        go_ret
        exact ⟨by rw [HE.out]; rfl, by rw [HQ.out]; exact (R2.out.ep n).ac true, ((Chg.of B2.out).trans (Chg.set _ _ _ _)).trans (Chg.set _ _ _ _)⟩
      · have HE : Hid (r.clE n = 3) := by show _ = _; unfold Ro.clE; rw [ha, if_neg (by simp), if_neg h2, if_neg hn]
        have HQ : Hid (r.claim n = r) := by show _ = _; unfold Ro.claim; rw [HE.out]; rfl
        have HA : Hid (r.ac = false) := ha
        clear ha h2
        generalize hx : r.nx = x at *
        have HX : Hid (r.nx = x) := hx
        clear hx
        go_enter Tryd.func44, Tryd.ntmps44
        go_wp2_with fail
        refine (active_any b r w HR.out).mono ?_
        rintro e w1 ⟨rfl, rfl⟩
        rw [HA.out]
        go_wp2_with fail
        refine (next_any b r s _ HR.out HK.out HS.out).mono ?_
        rintro e w2 ⟨rfl, hb⟩
        have B2 : Hid (Below w1.heap.size w1 w2) := hb
        clear hb
        rw [HV.out.1, HV.out.2]
        simp only [terr]
        have g2 := (HS.out.below B2.out).c2
        go_wp2_with fail
        go_ret
        exact ⟨by rw [HE.out]; rfl, by rw [HQ.out]; exact HR.out.below B2.out, Chg.of B2.out⟩
  · have HE : Hid (r.clE n = 11) := by show _ = _; unfold Ro.clE; rw [ha, if_pos rfl]
    have HQ : Hid (r.claim n = r) := by show _ = _; unfold Ro.claim; rw [HE.out]; rfl
    have HA : Hid (r.ac = true) := ha
    clear ha
    have g10 := HS.out.c10
    go_enter Tryd.func44, Tryd.ntmps44
    go_wp2_with fail
    refine (active_any b r w HR.out).mono ?_
    rintro e w1 ⟨rfl, rfl⟩
    rw [HA.out]
    go_wp2_with fail
    go_ret
    exact ⟨by rw [HE.out]; rfl, by rw [HQ.out]; exact HR.out, Chg.refl _ _⟩
/-- what a law has: a role, all else as it was in w0. -/
structure Rl1 (w0 w : World) (b : Nat) (r : Ro) : Prop where
  y : Rol w b r
  k : r.Ok
  hb : w0.heap.size ≤ b
  bl : Below w0.heap.size w0 w
theorem Rl1.below {w0 w w' : World} {b : Nat} {r : Ro} (h : Rl1 w0 w b r) (k : Below w.heap.size w w') : Rl1 w0 w' b r := ⟨h.y.below k, h.k, h.hb, t2 h.bl k⟩
theorem new_r1 (nd ep : Int) {w0 w : World} (hb : Below w0.heap.size w0 w) (h : nd = 0 ∨ nd = 1) (h0 : 0 ≤ ep) (h1 : ep ≤ 1073741824) :
    Calls Tryd.prog 18 #[.int .i64 nd, .int .i64 ep] w fun e w' => ∃ b, e = .returned (.tuple #[.pointer (some ⟨b, 0, none⟩), .nilIface]) ∧ Rl1 w0 w' b (Ro.new nd ep) := by
  refine (newR_ok nd ep w h h0 h1).mono ?_
  rintro e w' ⟨⟨rfl, a1⟩, a2⟩
  exact ⟨_, rfl, a1, .new h h0 h1, hb.size, t2 hb a2⟩
theorem next_r1 {w0 w : World} {b : Nat} {r : Ro} (h : Rl1 w0 w b r) (s : Nat → Addr) (S : Se3 w0 s) :
    Calls Tryd.prog 42 #[.pointer (some ⟨b, 0, none⟩)] w fun e w' => e = .returned (.tuple #[.int .i64 r.nxV, terr s r.nxE]) ∧ Rl1 w0 w' b r := by
  refine (next_any b r s w h.y h.k (S.below h.bl)).mono ?_
  rintro e w' ⟨rfl, a1⟩
  exact ⟨rfl, h.below a1⟩
theorem claim_r1 {w0 w : World} {b : Nat} {r : Ro} (h : Rl1 w0 w b r) (n : Int) (s : Nat → Addr) (S : Se3 w0 s) :
    Calls Tryd.prog 44 #[.pointer (some ⟨b, 0, none⟩), .int .i64 n] w fun e w' => e = .returned (terr s (r.clE n)) ∧ Rl1 w0 w' b (r.claim n) := by
  refine (claim_any b r n s w h.y h.k (S.below h.bl)).mono ?_
  rintro e w' ⟨rfl, a1, a2⟩
  exact ⟨rfl, a1, h.k.claim n, h.hb, Chg.below h.bl a2 h.hb⟩
theorem tick_r1 {w0 w : World} {b : Nat} {r : Ro} (h : Rl1 w0 w b r) :
    Calls Tryd.prog 26 #[.pointer (some ⟨b, 0, none⟩)] w fun e w' => e = .returned (.bool r.rings) ∧ Rl1 w0 w' b r.tick := by
  refine (tick_any b r w h.y h.k).mono ?_
  rintro e w' ⟨rfl, a1, a2⟩
  exact ⟨rfl, a1, h.k.tick, h.hb, Chg.below h.bl a2 h.hb⟩
end Go.Proofs.YtjfhompbeengmaaDoor
