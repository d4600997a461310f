/-
  Texts in one: TkM PkA TkA TkB TkD.
-/
import Derived.WalkKit
import Derived.Test.YtjfhompbeengmaaDoorProg
import Derived.Below
import Derived.Deep.QuietTactic
import Derived.BigQuiet
import Derived.RegionTactic
import Derived.Deep.RegionWith
import Derived.Maps.OwnOps
import Derived.Maps.Views
import Derived.Maps.AppendAt
import Derived.DeepKeys4
namespace Go.Proofs.YtjfhompbeengmaaDoor
open Go Go.RowKit

/-- has all of these flags. -/
def hasB (fl k : Int) : Bool := bits BinOp.and IntKind.i64 fl k == k
theorem and_nat (n : Nat) : (n % 4 = (n &&& 3)) ∧ ((n &&& 3) &&& 2 = (n &&& 2)) ∧ ((n &&& 3) &&& 1 = (n &&& 1)) := by
  refine ⟨(Nat.and_two_pow_sub_one_eq_mod n 2).symm, ?_, ?_⟩
  · rw [Nat.and_assoc]; rfl
  · rw [Nat.and_assoc]; rfl
theorem bits_small (x k : Int) (m : Nat) (hk : (BitVec.ofInt 64 k).toNat = m) : bits BinOp.and IntKind.i64 x k = IntKind.i64.wrap (((BitVec.ofInt 64 x).toNat &&& m : Nat) : Int) := by
  show IntKind.i64.wrap ((BitVec.ofInt 64 x &&& BitVec.ofInt 64 k).toNat : Int) = _
  rw [BitVec.toNat_and, hk]
theorem and3 (x : Int) : hasB x 3 = (hasB x 1 && hasB x 2) := by
  unfold hasB
  rw [bits_small x 3 3 (by decide), bits_small x 1 1 (by decide), bits_small x 2 2 (by decide)]
  generalize (BitVec.ofInt 64 x).toNat = n
  obtain ⟨h1, h2, h3⟩ := and_nat n
  rw [← h2, ← h3, ← h1]
  have h4 : n % 4 < 4 := Nat.mod_lt _ (by omega)
  generalize n % 4 = m at h4
  match m, h4 with
  | 0, _ => decide
  | 1, _ => decide
  | 2, _ => decide
  | 3, _ => decide
theorem has8_ne {x : Int} (h : hasB x 8 = true) : (bits BinOp.and IntKind.i64 x 8 != 0) = true := by
  have h1 : bits BinOp.and IntKind.i64 x 8 = 8 := beq_iff_eq.1 h
  rw [h1]; decide

/-- a flow's next state; is it gone? -/
def nxtS (pr st fl : Int) (ou : Bool) : Int :=
  if pr = 2 then (if hasB fl 8 = true then 0 else if hasB fl 4 = true then 3 else if st = 1 ∧ ou = false ∧ hasB fl 3 = true then 2 else st) else st
def nxtG (pr fl : Int) : Bool := decide (pr = 2) && hasB fl 8
/-- its beginning: state and error's number. -/
def bgnS (pr fl : Int) : Int := if (pr = 1 ∨ pr = 2) ∧ 0 ≤ fl ∧ fl ≤ 15 then (if pr = 1 then 2 else if fl = 1 then 1 else 0) else 0
def bgnE (pr fl : Int) : Nat := if (pr = 1 ∨ pr = 2) ∧ 0 ≤ fl ∧ fl ≤ 15 then (if pr = 1 then 0 else if fl = 1 then 0 else 9) else 2
/-- how long it stays. -/
def stay (pr st : Int) : Int := if pr = 1 then 60 else if pr = 2 then (if st = 1 then 10 else if st = 2 then 100 else if st = 3 then 5 else 0) else 0
end Go.Proofs.YtjfhompbeengmaaDoor

namespace Go.Proofs.YtjfhompbeengmaaDoor
open Go.RowKit

theorem Tryd.idx0 (x y : Value) (w : World) : (Instr.index 129 (.agg #[x, y]) (.int .i64 0)).run Tryd.prog w = .ok x w := by kernel_rfl
theorem Tryd.idx1 (x y : Value) (w : World) : (Instr.index 129 (.agg #[x, y]) (.int .i64 1)).run Tryd.prog w = .ok y w := by kernel_rfl

theorem ends_any (b o : Nat) (w : World) : Calls Tryd.prog 65 #[.pointer (some ⟨b, o, none⟩)] w fun e w' =>
    e = .returned (.agg #[.pointer (some ⟨b, o + 1, none⟩), .pointer (some ⟨b, o + 3, none⟩)]) ∧ Below w.heap.size w w' := by
  go_enter Tryd.func65, Tryd.ntmps65
  go_wp2
  go_region
  all_goals go_wp2
  all_goals exact bodyPost_ret (v := .agg #[.pointer (some ⟨b, o + 1, none⟩), .pointer (some ⟨b, o + 3, none⟩)]) (by simp [results, Tryd.results65, go_sem]) rfl ⟨rfl, by repeat (first | exact Below.refl _ _ | refine Below.drew ?_ | refine Below.alloc ?_ (Nat.le_refl _) _)⟩
end Go.Proofs.YtjfhompbeengmaaDoor

namespace Go.Proofs.YtjfhompbeengmaaDoor
open Go.RowKit

theorem bk {w w' : World} (h : Below w.heap.size w w') {a : Addr} {v : Value} (hc : w.cell? a = some v) : w'.cell? a = some v := by
  have hl : a.block < w.heap.size := by
    rcases Nat.lt_or_ge a.block w.heap.size with h | h
    · exact h
    · simp [World.cell?, Array.getElem?_eq_none h] at hc
  rw [h.cell (p := a) hl]; exact hc
theorem bb {w w1 w2 : World} (h1 : Below w.heap.size w w1) (h2 : Below w1.heap.size w1 w2) : Below w.heap.size w w2 := h1.trans (h2.mono h1.size)
theorem has_any (fl k : Int) (b : Bool) (hb : hasB fl k = b) (w : World) : Calls Tryd.prog 71 #[.int .i64 fl, .int .i64 k] w fun e w' => e = .returned (.bool b) ∧ w' = w := by
  subst hb
  go_enter Tryd.func71, Tryd.ntmps71
  go_wp2_with fail
  go_ret
  exact ⟨rfl, rfl⟩
theorem next_un {r x : Int} {g y : Bool} (h1 : r = x) (h2 : g = y) : Ending.returned (.tuple #[.int .i64 r, .bool g]) = .returned (.tuple #[.int .i64 x, .bool y]) := by rw [h1, h2]
set_option maxRecDepth 100000 in
set_option maxHeartbeats 1000000 in
theorem next_no (pr st fl : Int) (ou : Bool) (w : World) (h : pr ≠ 2) :
    Calls Tryd.prog 53 #[.int .i64 pr, .int .i64 st, .int .i64 fl, .bool ou] w fun e w' => e = .returned (.tuple #[.int .i64 st, .bool false]) ∧ w' = w := by
  have h1 : (pr != 2) = true := bne_iff_ne.2 h
  clear h
  go_enter Tryd.func53, Tryd.ntmps53
  go_wp2_with fail
  go_ret2
  exact ⟨rfl, rfl⟩
set_option maxRecDepth 100000 in
set_option maxHeartbeats 1000000 in
theorem next_tcp (st fl : Int) (ou b8 b4 b3 : Bool) (w : World) (h8 : hasB fl 8 = b8) (h4 : hasB fl 4 = b4) (h3 : hasB fl 3 = b3) (r : Int) (g : Bool)
    (hr : (b8 = true ∧ r = 0 ∧ g = true) ∨ (b8 = false ∧ b4 = true ∧ r = 3 ∧ g = false) ∨ (b8 = false ∧ b4 = false ∧ (st == 1) = true ∧ ou = false ∧ b3 = true ∧ r = 2 ∧ g = false)
      ∨ (b8 = false ∧ b4 = false ∧ (st == 1) = true ∧ ou = false ∧ b3 = false ∧ r = st ∧ g = false) ∨ (b8 = false ∧ b4 = false ∧ (st == 1) = true ∧ ou = true ∧ r = st ∧ g = false) ∨ (b8 = false ∧ b4 = false ∧ (st == 1) = false ∧ r = st ∧ g = false)) :
    Calls Tryd.prog 53 #[.int .i64 2, .int .i64 st, .int .i64 fl, .bool ou] w fun e w' => e = .returned (.tuple #[.int .i64 r, .bool g]) ∧ w' = w := by
  have H8 : Hid (hasB fl 8 = b8) := h8
  have H4 : Hid (hasB fl 4 = b4) := h4
  have H3 : Hid (hasB fl 3 = b3) := h3
  clear h8 h4 h3
  rcases hr with ⟨rfl, rfl, rfl⟩ | ⟨rfl, rfl, rfl, rfl⟩ | ⟨rfl, rfl, hs, rfl, rfl, rfl, rfl⟩ | ⟨rfl, rfl, hs, rfl, rfl, rfl, rfl⟩ | ⟨rfl, rfl, hs, rfl, rfl, rfl⟩ | ⟨rfl, rfl, hs, rfl, rfl⟩
  all_goals
    go_enter Tryd.func53, Tryd.ntmps53
    go_wp2_with fail
    refine (has_any fl 8 _ H8.out _).mono ?_
    rintro e w1 ⟨rfl, rfl⟩
    go_wp2_with (first | (go_at_call_of 71 (Value.int IntKind.i64 4); refine (has_any fl 4 _ H4.out _).mono ?_; rintro e w1 ⟨rfl, rfl⟩) | (go_at_call_of 71 (Value.int IntKind.i64 3); refine (has_any fl 3 _ H3.out _).mono ?_; rintro e w1 ⟨rfl, rfl⟩))
    all_goals go_ret2
    all_goals exact ⟨rfl, rfl⟩
theorem tknext_any (pr st fl : Int) (ou : Bool) (w : World) :
    Calls Tryd.prog 53 #[.int .i64 pr, .int .i64 st, .int .i64 fl, .bool ou] w fun e w' => e = .returned (.tuple #[.int .i64 (nxtS pr st fl ou), .bool (nxtG pr fl)]) ∧ w' = w := by
  by_cases h : pr = 2
  · subst h
    refine next_tcp st fl ou _ _ _ w rfl rfl rfl _ _ ?_
    unfold nxtS nxtG
    rw [if_pos rfl]
    cases h8 : hasB fl 8 <;> cases h4 : hasB fl 4 <;> cases h3 : hasB fl 3 <;> cases ou <;> by_cases hs : st = 1 <;> simp [hs]
  · have e1 : nxtS pr st fl ou = st := by unfold nxtS; rw [if_neg h]
    have e2 : nxtG pr fl = false := by unfold nxtG; rw [decide_eq_false h]; rfl
    rw [e1, e2]
    exact next_no pr st fl ou w h
end Go.Proofs.YtjfhompbeengmaaDoor

namespace Go.Proofs.YtjfhompbeengmaaDoor
open Go.RowKit Go.Maps

theorem Tryd.laidOut : laidOutB Tryd.prog = true := by kernel_rfl
theorem Tryd.rowSt : (157 : TypeId) < Tryd.prog.types.size := of_decide_eq_true (by kernel_rfl)
theorem Tryd.wideSt : (match Tryd.prog.underlying 157 with | some (.array _ _) | some (.struct _) => true | _ => false) = true := by rw [Tryd.underlying157]
set_option maxRecDepth 100000 in
theorem Tryd.lawSt : Keyed Tryd.prog 157 := Keyed.of_law (deep_law_laid Tryd.laidOut (m := 2) (by omega) Tryd.rowSt (by kernel_rfl) Tryd.wideSt)
theorem Tryd.zeroI (w : World) : (zeroValue 3).run Tryd.prog w = .ok (.int .i64 0) w := by kernel_rfl
def stK (p s : Int) : Lit := .string (keyBytes [.int .i64 p, .int .i64 s])
theorem stKey {p s : Int} (hp : (Lit.int .i64 p).wf = true) (hs : (Lit.int .i64 s).wf = true) : keyOf Tryd.prog 157 (.agg #[.int .i64 p, .int .i64 s]) = some (stK p s) := by
  have c0 : Tryd.prog.cellsOf 157 = 2 := by kernel_rfl
  have c1 : Tryd.prog.cellsOf 3 = 1 := by kernel_rfl
  have k1 : ∀ (n : Nat) x, (Lit.int .i64 x).wf = true → Tryd.prog.keyLits (n + 1) 3 [.int .i64 x] = some [.int .i64 x] := fun n x hx => by
    unfold Program.keyLits; rw [Tryd.underlying3]; simp [hx]
  have kt : Tryd.prog.keyType 157 = true := by kernel_rfl
  have kf : (Value.agg #[.int .i64 p, .int .i64 s]).formed Tryd.prog 157 = true := by simp [Value.formed, Tryd.underlying157, c0]
  obtain ⟨n, hn⟩ : ∃ n, Tryd.prog.types.size = n + 1 := ⟨_, (show Tryd.prog.types.size = (180 - 1) + 1 by kernel_rfl)⟩
  have kl : Tryd.prog.keyLits (Tryd.prog.types.size + 1) 157 (Value.agg #[.int .i64 p, .int .i64 s]).cells.toList = some [.int .i64 p, .int .i64 s] := by
    rw [hn]; unfold Program.keyLits; rw [Tryd.underlying157]; simp [Value.cells, c0, c1, k1, hp, hs]
  unfold keyOf
  rw [Tryd.underlying157]
  simp only [kt, kf, kl, Bool.and_self, if_true, Option.map_some]
  rfl
theorem stK_ne {p s a b : Int} (hp : (Lit.int .i64 p).wf = true) (hs : (Lit.int .i64 s).wf = true) (ha : (Lit.int .i64 a).wf = true) (hb : (Lit.int .i64 b).wf = true) (h : ¬ (p = a ∧ s = b)) : stK p s ≠ stK a b := by
  intro e
  have h1 := stKey hp hs
  rw [e] at h1
  have h2 := Tryd.lawSt.inj h1 (stKey ha hb)
  simp at h2
  exact h h2
theorem stK_key (p s : Int) : WideAt.IsKeyLit (stK p s) := trivial
/-- a map of stages: what was put, the last first. -/
def tmD : List (Int × Int × Int) → DataW Unit
  | [] => .map []
  | x :: r => (tmD r).put (stK x.1 x.2.1) (.lit (.int .i64 x.2.2))
def tmV : List (Int × Int × Int) → Int → Int → Int
  | [], _, _ => 0
  | x :: r, p, s => if p = x.1 ∧ s = x.2.1 then x.2.2 else tmV r p s
def small (x : Int × Int × Int) : Prop := 0 ≤ x.1 ∧ x.1 ≤ 1000 ∧ 0 ≤ x.2.1 ∧ x.2.1 ≤ 1000 ∧ 0 ≤ x.2.2 ∧ x.2.2 ≤ 1000
theorem small_wf {n : Int} (h0 : 0 ≤ n) (h1 : n ≤ 1000) : (Lit.int .i64 n).wf = true := by
  apply WalkArith.wf_i64 <;> omega
theorem tm_map : ∀ l, IsMap (tmD l)
  | [] => ⟨_, rfl⟩
  | x :: r => by
    obtain ⟨es, h⟩ := tm_map r
    exact ⟨_, by rw [tmD, h]; rfl⟩
theorem tm_at {p s : Int} (hp : (Lit.int .i64 p).wf = true) (hs : (Lit.int .i64 s).wf = true) : ∀ (l : List (Int × Int × Int)), (∀ x ∈ l, small x) → (tmD l).atKey (stK p s) (.lit (.int .i64 0)) = .lit (.int .i64 (tmV l p s))
  | [], _ => rfl
  | x :: r, h => by
    obtain ⟨h0, h1, h2, h3, _⟩ := h x (List.mem_cons_self ..)
    rw [tmD, tmV]
    by_cases e : p = x.1 ∧ s = x.2.1
    · rw [if_pos e, e.1, e.2]; exact atKey_put_same (tm_map r) (stK_key _ _) _ _
    · rw [if_neg e, atKey_put_other (stK_ne hp hs (small_wf h0 h1) (small_wf h2 h3) e)]
      exact tm_at hp hs r (fun y hy => h y (List.mem_cons_of_mem _ hy))
/-- the world behind a store into the map of block b. -/
noncomputable def upW (b : Nat) (W : World) (x : Int × Int × Int) : World :=
  match (Instr.mapUpdate 154 (.map (some b)) (.agg #[.int .i64 x.1, .int .i64 x.2.1]) (.int .i64 x.2.2)).run Tryd.prog W with
  | .ok _ w' => w'
  | _ => W
noncomputable def mapW (b : Nat) (W : World) : List (Int × Int × Int) → World
  | [] => W
  | x :: r => upW b (mapW b W r) x
abbrev Om (W : World) (b : Nat) (l : List (Int × Int × Int)) : Prop := W.ownsMap Tryd.prog 157 (plainElem Tryd.prog 3) b l.length (tmD l)
theorem up_run {W : World} {b : Nat} {l : List (Int × Int × Int)} (h : Om W b l) (hl : l.length < 100) (x : Int × Int × Int) (hx : small x) :
    (Instr.mapUpdate 154 (.map (some b)) (.agg #[.int .i64 x.1, .int .i64 x.2.1]) (.int .i64 x.2.2)).run Tryd.prog W = .ok () (upW b W x) ∧ Om (upW b W x) b (x :: l) ∧ W.grownBy (upW b W x) (some b) := by
  obtain ⟨h0, h1, h2, h3, h4, h5⟩ := hx
  obtain ⟨w', r1, r2, r3⟩ := World.ownsMap.update h Tryd.lawSt Tryd.underlying154 (by unfold maxLen; omega) (stKey (small_wf h0 h1) (small_wf h2 h3)) (plainElem_int Tryd.underlying3 (small_wf h4 h5))
  have e : upW b W x = w' := by unfold upW; rw [r1]
  rw [e]
  exact ⟨r1, r2, r3⟩
theorem mapW_own {W : World} {b : Nat} (h : Om W b []) : ∀ (l : List (Int × Int × Int)), l.length < 100 → (∀ x ∈ l, small x) → Om (mapW b W l) b l ∧ W.grownBy (mapW b W l) (some b)
  | [], _, _ => ⟨h, ⟨rfl, rfl, rfl, Nat.le_refl _, fun _ _ _ => rfl⟩⟩
  | x :: r, hl, hs => by
    have hl' : r.length < 100 := by simp at hl; omega
    obtain ⟨h1, h2⟩ := mapW_own h r hl' (fun y hy => hs y (List.mem_cons_of_mem _ hy))
    obtain ⟨_, h3, h4⟩ := up_run h1 hl' x (hs x (List.mem_cons_self ..))
    exact ⟨h3, h2.trans h4⟩
theorem mapW_run {W : World} {b : Nat} (h : Om W b []) (l : List (Int × Int × Int)) (hl : l.length < 100) (hs : ∀ x ∈ l, small x) (p s c : Int) (hx : small (p, s, c)) :
    (Instr.mapUpdate 154 (.map (some b)) (.agg #[.int .i64 p, .int .i64 s]) (.int .i64 c)).run Tryd.prog (mapW b W l) = .ok () (mapW b W ((p, s, c) :: l)) :=
  (up_run (mapW_own h l hl hs).1 hl (p, s, c) hx).1
theorem tmV_stay (p s : Int) (h : p ≠ 1) : tmV [(2, 3, 5), (2, 2, 100), (2, 1, 10), (1, 2, 60)] p s = stay p s := by
  unfold stay
  simp only [tmV]
  by_cases h2 : p = 2
  · subst h2
    by_cases a : s = 1
    · subst a; decide
    by_cases b : s = 2
    · subst b; decide
    by_cases c : s = 3
    · subst c; decide
    simp [a, b, c]
  · simp [h, h2]
theorem mapW_below (w : World) (l : List (Int × Int × Int)) (hl : l.length < 100) (hs : ∀ x ∈ l, small x) : Om (mapW w.heap.size (w.alloc (.map #[] 0)).drew l) w.heap.size l ∧ Below w.heap.size w (mapW w.heap.size (w.alloc (.map #[] 0)).drew l) := by
  obtain ⟨h1, h2⟩ := mapW_own (W := (w.alloc (.map #[] 0)).drew) (b := w.heap.size) (World.ownsMap_made _ _ _ _) l hl hs
  exact ⟨h1, (((Below.refl _ _).alloc (Nat.le_refl _) _).drew).grown h2 (by simp) (fun j hj => by cases hj; exact Nat.le_refl _)⟩
theorem times_end (w : World) (l : List (Int × Int × Int)) (hl : l.length < 100) (hs : ∀ x ∈ l, small x) (hv : ∀ p s, tmV l p s = tmV [(2, 3, 5), (2, 2, 100), (2, 1, 10), (1, 2, 60)] p s) {b : Nat} (hb : b = w.heap.size) :
    Ending.returned (.map (some b)) = .returned (.map (some w.heap.size)) ∧ (∃ l', Om (mapW w.heap.size (w.alloc (.map #[] 0)).drew l) w.heap.size l' ∧ (∀ x ∈ l', small x) ∧ ∀ p s, tmV l' p s = tmV [(2, 3, 5), (2, 2, 100), (2, 1, 10), (1, 2, 60)] p s) ∧ Below w.heap.size w (mapW w.heap.size (w.alloc (.map #[] 0)).drew l) := by
  subst hb
  obtain ⟨h1, h2⟩ := mapW_below w l hl hs
  exact ⟨rfl, ⟨l, h1, hs, hv⟩, h2⟩
set_option maxRecDepth 100000 in
set_option maxHeartbeats 4000000 in
theorem times_any (w : World) : Calls Tryd.prog 85 #[] w fun e w' => e = .returned (.map (some w.heap.size)) ∧ (∃ l, Om w' w.heap.size l ∧ (∀ x ∈ l, small x) ∧ ∀ p s, tmV l p s = tmV [(2, 3, 5), (2, 2, 100), (2, 1, 10), (1, 2, 60)] p s) ∧ Below w.heap.size w w' := by
  have hmm := @run_makeMap Tryd.prog
  have H0 : Hid (Om (w.alloc (.map #[] 0)).drew w.heap.size []) := World.ownsMap_made _ _ _ _
  have hr0 : ∀ p s c : Int, 0 ≤ p → p ≤ 1000 → 0 ≤ s → s ≤ 1000 → 0 ≤ c → c ≤ 1000 → Sem.run Tryd.prog (Instr.mapUpdate 154 (.map (some w.heap.size)) (.agg #[.int .i64 p, .int .i64 s]) (.int .i64 c)) (w.alloc (.map #[] 0)).drew = .ok () (mapW w.heap.size (w.alloc (.map #[] 0)).drew [(p, s, c)]) :=
    fun p s c a0 a1 a2 a3 a4 a5 => mapW_run H0.out [] (by simp) (fun _ h => by cases h) p s c ⟨a0, a1, a2, a3, a4, a5⟩
  have hr1 : ∀ l : List (Int × Int × Int), l.length < 100 → (∀ x ∈ l, small x) → ∀ p s c : Int, 0 ≤ p → p ≤ 1000 → 0 ≤ s → s ≤ 1000 → 0 ≤ c → c ≤ 1000 → Sem.run Tryd.prog (Instr.mapUpdate 154 (.map (some w.heap.size)) (.agg #[.int .i64 p, .int .i64 s]) (.int .i64 c)) (mapW w.heap.size (w.alloc (.map #[] 0)).drew l) = .ok () (mapW w.heap.size (w.alloc (.map #[] 0)).drew ((p, s, c) :: l)) :=
    fun l hl hs p s c a0 a1 a2 a3 a4 a5 => mapW_run H0.out l hl hs p s c ⟨a0, a1, a2, a3, a4, a5⟩
  have hsm : ∀ p s c : Int, small (p, s, c) = (0 ≤ p ∧ p ≤ 1000 ∧ 0 ≤ s ∧ s ≤ 1000 ∧ 0 ≤ c ∧ c ≤ 1000) := fun _ _ _ => rfl
  go_enter Tryd.func85, Tryd.ntmps85
  go_wp2_with fail
  go_region
  all_goals go_wp2_with fail
  all_goals go_ret
  all_goals refine times_end w _ (by simp) (by simp [small]) (fun p s => ?_) rfl
  all_goals simp only [tmV]
  all_goals (repeat' split) <;> omega
set_option maxRecDepth 100000 in
theorem om_look {W : World} {b : Nat} {l : List (Int × Int × Int)} (h : Om W b l) (hs : ∀ x ∈ l, small x) {p s : Int} (hp : (Lit.int .i64 p).wf = true) (hq : (Lit.int .i64 s).wf = true) :
    (Instr.lookup 154 (.map (some b)) (.agg #[.int .i64 p, .int .i64 s]) false).run Tryd.prog W = .ok (.int .i64 (tmV l p s)) W := by
  obtain ⟨c, h1, h2, _⟩ := World.ownsMap.lookup_int h Tryd.lawSt Tryd.underlying154 Tryd.underlying3 (Tryd.zeroI _) (stKey hp hq)
  rw [tm_at hp hq l hs] at h2
  injection h2 with h2; injection h2 with _ h2
  rw [h1, h2]
set_option maxRecDepth 100000 in
set_option maxHeartbeats 2000000 in
theorem time_any (pr st : Int) (w : World) (hp : (Lit.int .i64 pr).wf = true) (hs : (Lit.int .i64 st).wf = true) :
    Calls Tryd.prog 73 #[.int .i64 pr, .int .i64 st] w fun e w' => e = .returned (.int .i64 (stay pr st)) ∧ Below w.heap.size w w' := by
  have HP : Hid ((Lit.int .i64 pr).wf = true) := hp
  have HS : Hid ((Lit.int .i64 st).wf = true) := hs
  clear hp hs
  by_cases h : pr = 1
  · subst h
    have HV : Hid (stay 1 st = 60) := rfl
    go_enter Tryd.func73, Tryd.ntmps73
    go_wp2_with fail
    refine (times_any _).mono ?_
    rintro e w1 ⟨rfl, ⟨l, h1, h2, h3⟩, hb⟩
    have hlk := om_look h1 h2 (p := 1) (s := 2) (by decide) (by decide)
    rw [h3 1 2] at hlk
    have e60 : tmV [(2, 3, 5), (2, 2, 100), (2, 1, 10), (1, 2, 60)] 1 2 = 60 := by decide
    rw [e60] at hlk
    have HB : Hid (Below w.heap.size w w1) := hb
    clear h1 h2 h3 e60 hb
    go_wp2_with fail
    go_ret
    refine ⟨?_, HB.out⟩
    rw [HV.out]
    rfl
  · have HV : Hid (tmV [(2, 3, 5), (2, 2, 100), (2, 1, 10), (1, 2, 60)] pr st = stay pr st) := tmV_stay pr st h
    have h1 : (pr == 1) = false := beq_eq_false_iff_ne.2 h
    clear h
    go_enter Tryd.func73, Tryd.ntmps73
    go_wp2_with fail
    refine (times_any _).mono ?_
    rintro e w1 ⟨rfl, ⟨l, h1, h2, h3⟩, hb⟩
    have hlk := om_look h1 h2 (p := pr) (s := st) HP.out HS.out
    rw [h3 pr st, HV.out] at hlk
    have HB : Hid (Below w.heap.size w w1) := hb
    clear h1 h2 h3 hb
    go_wp2_with fail
    go_ret
    exact ⟨rfl, HB.out⟩
end Go.Proofs.YtjfhompbeengmaaDoor

namespace Go.Proofs.YtjfhompbeengmaaDoor
open Go.RowKit

/-- two sentinels. -/
structure Se18 (w : World) (s : Nat → Addr) : Prop where
  c1 : w.cell? ⟨0, 0, none⟩ = some (.iface 161 (.pointer (some (s 1))))
  c8 : w.cell? ⟨6, 0, none⟩ = some (.iface 161 (.pointer (some (s 8))))
set_option maxRecDepth 100000 in
set_option maxHeartbeats 1000000 in
theorem begin_ok (w : World) : Calls Tryd.prog 68 #[.int .i64 2, .int .i64 1] w fun e w' => e = .returned (.tuple #[.int .i64 1, .nilIface]) ∧ w' = w := by
  go_enter Tryd.func68, Tryd.ntmps68
  go_wp2_with fail
  go_ret2
  exact ⟨rfl, rfl⟩
/-- an error by its number. -/
def bgnV (s : Nat → Addr) : Nat → Value
  | 0 => .nilIface
  | k + 1 => .iface 161 (.pointer (some (s k)))
set_option maxRecDepth 100000 in
set_option maxHeartbeats 1000000 in
theorem begin_bad (pr fl : Int) (s : Nat → Addr) (w : World) (S : Se18 w s) (h : ((pr != 1) = true ∧ (pr != 2) = true) ∨ ((pr = 1 ∨ pr = 2) ∧ (fl < 0 ∨ 15 < fl))) :
    Calls Tryd.prog 68 #[.int .i64 pr, .int .i64 fl] w fun e w' => e = .returned (.tuple #[.int .i64 0, bgnV s 2]) ∧ Below w.heap.size w w' := by
  have c1 := S.c1
  clear S
  rcases h with ⟨h1, h2⟩ | ⟨rfl | rfl, h | h⟩
  all_goals
    go_enter Tryd.func68, Tryd.ntmps68
    go_wp2_with fail
    go_region
    all_goals go_wp2_with fail
    all_goals go_ret2
    all_goals exact ⟨rfl, (Below.refl _ _).drew⟩
set_option maxRecDepth 100000 in
set_option maxHeartbeats 1000000 in
theorem begin_state (fl : Int) (s : Nat → Addr) (w : World) (S : Se18 w s) (h0 : 0 ≤ fl) (h1 : fl ≤ 15) (h : fl ≠ 1) :
    Calls Tryd.prog 68 #[.int .i64 2, .int .i64 fl] w fun e w' => e = .returned (.tuple #[.int .i64 0, bgnV s 9]) ∧ Below w.heap.size w w' := by
  have c8 := S.c8
  have h2 : (fl != 1) = true := bne_iff_ne.2 h
  clear S h
  go_enter Tryd.func68, Tryd.ntmps68
  go_wp2_with fail
  go_region
  all_goals go_wp2_with fail
  all_goals go_ret2
  all_goals exact ⟨rfl, (Below.refl _ _).drew⟩
set_option maxRecDepth 100000 in
set_option maxHeartbeats 1000000 in
theorem begin_udp (fl : Int) (w : World) (h0 : 0 ≤ fl) (h1 : fl ≤ 15) :
    Calls Tryd.prog 68 #[.int .i64 1, .int .i64 fl] w fun e w' => e = .returned (.tuple #[.int .i64 2, .nilIface]) ∧ w' = w := by
  go_enter Tryd.func68, Tryd.ntmps68
  go_wp2_with fail
  go_ret2
  exact ⟨rfl, rfl⟩
theorem begin_any (pr fl : Int) (s : Nat → Addr) (w : World) (S : Se18 w s) :
    Calls Tryd.prog 68 #[.int .i64 pr, .int .i64 fl] w fun e w' => e = .returned (.tuple #[.int .i64 (bgnS pr fl), bgnV s (bgnE pr fl)]) ∧ Below w.heap.size w w' := by
  by_cases h : (pr = 1 ∨ pr = 2) ∧ 0 ≤ fl ∧ fl ≤ 15
  · by_cases h1 : pr = 1
    · subst h1
      have e1 : bgnS 1 fl = 2 := by unfold bgnS; rw [if_pos h]; rfl
      have e2 : bgnE 1 fl = 0 := by unfold bgnE; rw [if_pos h]; rfl
      rw [e1, e2]
      exact (begin_udp fl w h.2.1 h.2.2).mono fun e w' ⟨he, hw⟩ => ⟨he, by rw [hw]; exact Below.refl _ _⟩
    · obtain rfl : pr = 2 := by omega
      by_cases h2 : fl = 1
      · subst h2
        have e1 : bgnS 2 1 = 1 := by decide
        have e2 : bgnE 2 1 = 0 := by decide
        rw [e1, e2]
        exact (begin_ok w).mono fun e w' ⟨he, hw⟩ => ⟨he, by rw [hw]; exact Below.refl _ _⟩
      · have e1 : bgnS 2 fl = 0 := by unfold bgnS; rw [if_pos h, if_neg (by omega), if_neg h2]
        have e2 : bgnE 2 fl = 9 := by unfold bgnE; rw [if_pos h, if_neg (by omega), if_neg h2]
        rw [e1, e2]
        exact begin_state fl s w S h.2.1 h.2.2 h2
  · have e1 : bgnS pr fl = 0 := by unfold bgnS; rw [if_neg h]
    have e2 : bgnE pr fl = 2 := by unfold bgnE; rw [if_neg h]
    rw [e1, e2]
    refine begin_bad pr fl s w S ?_
    simp only [bne_iff_ne, ne_eq]
    omega
end Go.Proofs.YtjfhompbeengmaaDoor
