/-
  Texts in one: MlA TnA TnB TnC MlB MrF.
-/
import Derived.Test.YtifjoboaolpejaaGreatDoorKf
import Derived.Laws.AppendOwnNone
import Derived.Test.YtifjoboaolpejaaGreatDoorKe
import Derived.Test.YtifjoboaolpejaaGreatDoorLa
import Derived.Test.YtifjoboaolpejaaGreatDoorKa
import Derived.Laws.MakeOwn
import Derived.OwnWalk
import Derived.Deep.QuietTactic
import Derived.BigQuiet
namespace Go.Proofs.YtifjoboaolpejaaGreatDoor
open Go.RowKit

/-- a slice of told cells. -/
def TcS (w : World) (v : Value) (l : List Tc) : Prop := (v = .slice none 0 0 ∧ l = []) ∨ ∃ a cap, v = .slice (some a) l.length cap ∧ TcR w (some a) l
theorem TcS.open {w : World} {v : Value} {l : List Tc} (h : TcS w v l) : ∃ p cap, v = .slice p l.length cap ∧ TcR w p l := by
  rcases h with ⟨rfl, rfl⟩ | ⟨a, cap, h1, h2⟩
  · exact ⟨none, 0, rfl, fun i r h => by simp at h⟩
  · exact ⟨_, _, h1, h2⟩
theorem TcS.below {w w' : World} {v : Value} {l : List Tc} (h : TcS w v l) (hb : Below w.heap.size w w') : TcS w' v l := by
  rcases h with h | ⟨a, cap, h1, h2⟩
  · exact .inl h
  · exact .inr ⟨a, cap, h1, h2.below hb⟩
/-- a slice of told cells in memory of its own, from block N on. -/
def TcN (w : World) (N : Nat) (v : Value) (l : List Tc) : Prop := ∃ p cap, v = .slice p l.length cap ∧ TcR w p l ∧ ∀ g o, p = some ⟨g, o, none⟩ → N ≤ g
def tcCs (l : List Tc) : List Value := l.flatMap tcC
theorem tcCs_cons (x : Tc) (l : List Tc) : tcCs (x :: l) = tcC x ++ tcCs l := rfl
theorem tcCs_len : ∀ l : List Tc, (tcCs l).length = l.length * 10
  | [] => rfl
  | x :: l => by
    rw [tcCs_cons, List.length_append, tcCs_len l]
    show 10 + _ = _
    simp only [List.length_cons]
    omega
theorem tcCs_at : ∀ (l : List Tc) (i k : Nat) (x : Tc) (u : Value), l[i]? = some x → (tcC x)[k]? = some u → (tcCs l)[i * 10 + k]? = some u
  | [], i, k, x, u, h, _ => by simp at h
  | a :: r, 0, k, x, u, h, hk => by
    simp at h
    subst h
    have : k < (tcC a).length := (List.getElem?_eq_some_iff.1 hk).1
    rw [tcCs_cons, List.getElem?_append_left (by omega), Nat.zero_mul, Nat.zero_add]
    exact hk
  | a :: r, i + 1, k, x, u, h, hk => by
    have hl : (tcC a).length = 10 := rfl
    rw [tcCs_cons, List.getElem?_append_right (by omega), hl, show (i + 1) * 10 + k - 10 = i * 10 + k from by omega]
    exact tcCs_at r i k x u (by simpa using h) hk
theorem tcCs_one (l : List Tc) (u : Value) (h : u ∈ tcCs l) : u.oneCell' = true := by
  obtain ⟨r, _, hr⟩ := List.mem_flatMap.1 h
  simp only [tcC, List.mem_cons, List.not_mem_nil, or_false] at hr
  rcases hr with rfl | rfl | rfl | rfl | rfl | rfl | rfl | rfl | rfl | rfl <;> rfl
theorem TcAt.get {w : World} {b o : Nat} {x : Tc} (h : TcAt w b o x) : ∀ k u, (tcC x)[k]? = some u → w.cell? ⟨b, o + k, none⟩ = some u
  | 0, _, e => by cases e; exact h.c0
  | 1, _, e => by cases e; exact h.c1
  | 2, _, e => by cases e; exact h.c2
  | 3, _, e => by cases e; exact h.c3
  | 4, _, e => by cases e; exact h.c4
  | 5, _, e => by cases e; exact h.c5
  | 6, _, e => by cases e; exact h.c6
  | 7, _, e => by cases e; exact h.c7
  | 8, _, e => by cases e; exact h.c8
  | 9, _, e => by cases e; exact h.c9
  | k + 10, _, e => by simp [tcC] at e
theorem TcR.get {w : World} {a : Addr} {l : List Tc} (R : TcR w (some a) l) (j : Nat) (u : Value) (h : (tcCs l)[j]? = some u) : w.cell? (a.add j) = some u := by
  have hj : j < l.length * 10 := by
    have := (List.getElem?_eq_some_iff.1 h).1
    rwa [tcCs_len] at this
  have hr : l[j / 10]? = some l[j / 10] := List.getElem?_eq_getElem (by omega)
  generalize l[j / 10] = x at hr
  obtain ⟨b, o, e1, hx⟩ := R _ _ hr
  obtain rfl := Option.some.inj e1
  have hk : j % 10 < (tcC x).length := by show j % 10 < 10; omega
  have hu : (tcC x)[j % 10]? = some (tcC x)[j % 10] := List.getElem?_eq_getElem hk
  have h2 := tcCs_at l _ _ x _ hr hu
  rw [show j / 10 * 10 + j % 10 = j from by omega, h] at h2
  have h3 := hx.get _ _ hu
  rw [tadd, show o + j = o + j / 10 * 10 + j % 10 from by omega, h3, Option.some.inj h2]
theorem TcN.of_own {w : World} {base : Nat} {v : Value} {n : Nat} {l : List Tc} (h : w.ownsRow base 138 10 v n (tcCs l)) : TcN w base v l := by
  obtain ⟨hlen, h⟩ := h
  rw [tcCs_len] at hlen
  have hn : n = l.length := by omega
  subst hn
  rcases h with ⟨rfl, h2⟩ | ⟨g, cap, cur, h1, h2, h3, h4, h5, h6, h7⟩
  · exact ⟨none, 0, by rw [h2], fun i r hr => by
      have := (List.getElem?_eq_some_iff.1 hr).1; omega, fun g o e => by cases e⟩
  · refine ⟨_, cap, h1, fun i r hr => ⟨g, 0, rfl, tcAt_of fun k u hk hu => ?_⟩, fun g' o e => by injection e with e; injection e with e; omega⟩
    have h8 := tcCs_at l i k r u hr hu
    rw [← h7, List.getElem?_take] at h8
    split at h8
    · have h9 : cur[i * 10 + k]? = some u := by simpa using h8
      rw [show 0 + i * 10 + k = i * 10 + k from by omega, cell_of_row w g _ _ _ _ h3]
      exact h9
    · cases h8
set_option maxRecDepth 100000 in
set_option maxHeartbeats 2000000 in
theorem ownc_any (v : Value) (l : List Tc) (w : World) (R : TcS w v l) (hl : l.length ≤ 1000) :
    Calls Tryz.prog 86 #[v] w fun e w' => (∃ v', e = .returned v' ∧ TcN w' w.heap.size v' l) ∧ Below w.heap.size w w' := by
  obtain ⟨i0, hi, hz0, hz1, hz2⟩ := info_parts Tryz.infoCell
  rcases R with ⟨rfl, rfl⟩ | ⟨a, cap, rfl, R⟩
  · go_enter Tryz.func86, Tryz.ntmps86
    go_wp2_with (at_builtin; refine wpList_append_own_none rfl _ _ 51 rfl w.heap.size 138 i0 10 Tryz.underlying51 hi _ 0 [] rfl (World.ownsRow_nil _ _ _ _) rfl ?_)
    go_ret
    exact ⟨⟨_, rfl, none, 0, rfl, fun i r h => by simp at h, fun g o e => by cases e⟩, Below.refl _ _⟩
  · have HR : Hid (TcR w (some a) l) := R
    clear R
    go_enter Tryz.func86, Tryz.ntmps86
    go_wp2_with (at_builtin; refine wpList_append_own _ rfl _ _ 51 rfl w.heap.size 138 i0 _ 10 80 Tryz.underlying51 hi hz0 hz1 hz2 rfl (by decide) _ 0 [] rfl (World.ownsRow_nil _ _ _ _) a l.length cap (tcCs l) rfl (tcCs_len l) HR.out.get (tcCs_one l) (by unfold maxLen; omega) (by omega) (Nat.le_refl _) ?_)
    intro v' w1 hown hgrow _
    have HO : Hid (TcN w1 w.heap.size v' l) := TcN.of_own (n := 0 + l.length) (by simpa using hown)
    have HG : Hid (Below w.heap.size w w1) := (Below.refl _ _).grown hgrow (Nat.le_refl _) (fun j hj => by cases hj)
    clear hown hgrow
    go_wp2_with fail
    go_ret
    exact ⟨⟨_, rfl, HO.out⟩, HG.out⟩
/-- flows in a slice. -/
def FlS (w : World) (p : Option Addr) (xs : List Ce) : Prop := ∀ (j : Nat) c, xs[j]? = some c → ∃ g, p = some ⟨g, 0, none⟩ ∧ ∀ k u, (flC c)[k]? = some u → w.cell? ⟨g, j * 8 + k, none⟩ = some u
theorem FlS.below {w w' : World} {p : Option Addr} {xs : List Ce} (h : FlS w p xs) (hb : Below w.heap.size w w') : FlS w' p xs := fun j c hc => by
  obtain ⟨g, e, h2⟩ := h j c hc
  exact ⟨g, e, fun k u hu => tk hb (h2 k u hu)⟩
theorem FlS.of_own {w : World} {base : Nat} {v : Value} {n : Nat} {xs : List Ce} (h : w.ownsRow base 136 8 v n (flCs xs)) : ∃ p cap, v = .slice p xs.length cap ∧ FlS w p xs := by
  obtain ⟨hlen, h⟩ := h
  rw [flCs_len] at hlen
  have hn : n = xs.length := by omega
  subst hn
  rcases h with ⟨rfl, h2⟩ | ⟨g, cap, cur, h1, h2, h3, h4, h5, h6, h7⟩
  · exact ⟨none, 0, by rw [h2], fun j c hc => by
      have := (List.getElem?_eq_some_iff.1 hc).1; omega⟩
  · refine ⟨_, cap, h1, fun j c hc => ⟨g, rfl, fun k u hu => ?_⟩⟩
    have h8 := flCs_at xs j k c u hc hu
    rw [← h7, List.getElem?_take] at h8
    split at h8
    · have h9 : cur[j * 8 + k]? = some u := by simpa using h8
      rw [cell_of_row w g _ _ _ _ h3]
      exact h9
    · cases h8
theorem neq_flow (c : Ce) (w : World) : (binOp .neq 136 (.agg #[.int .i64 c.pr, .int .i64 c.ia, .int .i64 c.ip, .int .i64 c.fa, .int .i64 c.fp, .int .i64 c.po, .int .i64 c.st, .int .i64 c.un]) (.agg #[.int .i64 c.pr, .int .i64 c.ia, .int .i64 c.ip, .int .i64 c.fa, .int .i64 c.fp, .int .i64 c.po, .int .i64 c.st, .int .i64 c.un])).run Tryz.prog w = .ok (.bool false) w := by
  have h := eqFl 9997 c w
  unfold flowV at h
  rw [run_neq_struct, show (10000 : Nat) = 9997 + 1 + 1 + 1 from rfl, h]
  rfl
end Go.Proofs.YtifjoboaolpejaaGreatDoor

namespace Go.Proofs.YtifjoboaolpejaaGreatDoor
open Go.RowKit

def toldArr (D : To) : Array Value := ((List.range 32).map fun k => .int .i64 (D k)).toArray
theorem toldArr_size (D : To) : (toldArr D).size = 32 := by simp [toldArr]
theorem toldArr_at (D : To) (k : Nat) (hk : k < 32) : (toldArr D)[k]? = some (.int .i64 (D k)) := by
  simp only [toldArr, List.getElem?_toArray, List.getElem?_map, List.getElem?_range hk, Option.map_some]
theorem toldArr_put (D : To) (s : Nat) (v : Int) (hs : s < 32) : (toldArr D).setIfInBounds s (.int .i64 v) = toldArr (fun k => if k = s then v else D k) := by
  apply Array.ext_getElem?
  intro j
  rw [Array.getElem?_setIfInBounds, toldArr_size]
  by_cases hj : j < 32
  · rw [toldArr_at _ j hj, toldArr_at _ j hj]
    by_cases e : s = j
    · subst e; rw [if_pos rfl, if_pos hj]; simp
    · rw [if_neg e]
      simp only [if_neg (fun e' : j = s => e e'.symm)]
  · rw [if_neg (by omega), Array.getElem?_eq_none (by rw [toldArr_size]; omega), Array.getElem?_eq_none (by rw [toldArr_size]; omega)]
/-- what was told, in memory. -/
def ToA (w : World) (h : Nat) (D : To) : Prop := ∃ ty, w.heap[h]? = some (.cells (toldArr D) ty (0, 0))
theorem ToA.at' {w : World} {h : Nat} {D : To} (a : ToA w h D) {k : Nat} (hk : k < 32) : w.cell? ⟨h, k, none⟩ = some (.int .i64 (D k)) := by
  obtain ⟨ty, e⟩ := a
  rw [cell_of_row w h _ _ _ _ e, toldArr_at D k hk]
theorem ToA.fr {w : World} {h : Nat} {D : To} (a : ToA w h D) (j : Nat) : w.frozen? ⟨h, j, none⟩ = false := by
  obtain ⟨ty, e⟩ := a
  exact frozen_of_row w h j _ _ e
theorem ToA.lt {w : World} {h : Nat} {D : To} (a : ToA w h D) : h < w.heap.size := tlt (a.at' (k := 0) (by omega))
theorem ToA.below {w w' : World} {h : Nat} {D : To} (a : ToA w h D) (hb : Below w.heap.size w w') : ToA w' h D := by
  have hl := a.lt
  obtain ⟨ty, e⟩ := a
  exact ⟨ty, by rw [hb.block h hl]; exact e⟩
theorem ToA.chg {w w' : World} {h b : Nat} {D : To} (a : ToA w h D) (hb : Chg b w w') (hn : h ≠ b) : ToA w' h D := by
  have hl := a.lt
  obtain ⟨ty, e⟩ := a
  exact ⟨ty, by rw [hb.block h hl hn]; exact e⟩
theorem ToA.put {w : World} {h : Nat} {D : To} (a : ToA w h D) {s : Nat} (v : Int) (hs : s < 32) : ToA (w.setCell ⟨h, s, none⟩ (.int .i64 v)) h (fun k => if k = s then v else D k) := by
  obtain ⟨ty, e⟩ := a
  exact ⟨ty, by rw [heap_setCell_same w h _ _ _ _ e, toldArr_put D s v hs]⟩
/-- the document's teller in memory. -/
structure RTel (w : World) (y m h : Nat) (D : To) (c : Nat) : Prop where
  c0 : w.cell? ⟨y, 0, none⟩ = some (.pointer (some ⟨m, 0, none⟩))
  c1 : w.cell? ⟨y, 1, none⟩ = some (.slice (some ⟨h, 0, none⟩) 32 32)
  c2 : w.cell? ⟨y, 2, none⟩ = some (.int .i64 c)
  f2 : w.frozen? ⟨y, 2, none⟩ = false
  a : ToA w h D
  ne : y ≠ h
  lt : c ≤ 32
theorem RTel.below {w w' : World} {y m h : Nat} {D : To} {c : Nat} (t : RTel w y m h D c) (hb : Below w.heap.size w w') : RTel w' y m h D c :=
  ⟨tk hb t.c0, tk hb t.c1, tk hb t.c2, (frozen_of_block (hb.block y (tlt t.c0))).trans t.f2, t.a.below hb, t.ne, t.lt⟩
theorem RTel.chg {w w' : World} {y m h b : Nat} {D : To} {c : Nat} (t : RTel w y m h D c) (hb : Chg b w w') (h1 : y ≠ b) (h2 : h ≠ b) : RTel w' y m h D c :=
  ⟨hb.keeps h1 t.c0, hb.keeps h1 t.c1, hb.keeps h1 t.c2, (frozen_of_block (hb.block y (tlt t.c0) h1)).trans t.f2, t.a.chg hb h2, t.ne, t.lt⟩
theorem RTel.cur {w : World} {y m h : Nat} {D : To} {c : Nat} (t : RTel w y m h D c) {c' : Nat} (hc : c' ≤ 32) : RTel (w.setCell ⟨y, 2, none⟩ (.int .i64 c')) y m h D c' where
  c0 := by rw [World.cell?_setCell_other _ _ _ _ (by simp)]; exact t.c0
  c1 := by rw [World.cell?_setCell_other _ _ _ _ (by simp)]; exact t.c1
  c2 := World.cell?_setCell_same' w _ _ (by rw [t.c2]; rfl)
  f2 := (World.frozen?_setCell _ _ _ _).trans t.f2
  a := t.a.chg (Chg.set y 2 w _) (fun e => t.ne e.symm)
  ne := t.ne
  lt := hc
theorem RTel.put {w : World} {y m h : Nat} {D : To} {c : Nat} (t : RTel w y m h D c) {s : Nat} (v : Int) (hs : s < 32) : RTel (w.setCell ⟨h, s, none⟩ (.int .i64 v)) y m h (fun k => if k = s then v else D k) c :=
  have hc := Chg.set h s w (.int .i64 v)
  ⟨hc.keeps t.ne t.c0, hc.keeps t.ne t.c1, hc.keeps t.ne t.c2, (frozen_of_block (hc.block y (tlt t.c0) t.ne)).trans t.f2, t.a.put v hs, t.ne, t.lt⟩
theorem told_zero : Array.replicate 32 (.int .i64 0) = toldArr (fun _ => 0) := by
  apply Array.ext_getElem?
  intro j
  by_cases hj : j < 32
  · rw [toldArr_at _ j hj, Array.getElem?_replicate, if_pos hj]
  · rw [Array.getElem?_eq_none (by simp; omega), Array.getElem?_eq_none (by rw [toldArr_size]; omega)]
theorem Tryz.infoIntT : (Tryz.prog.info? 3).map (fun i => (i.zero, i.size, i.bytes)) = some (some (.int .i64 0), 1, 8) := by kernel_rfl
theorem make_ints (w : World) : (Instr.makeSlice 128 (.int .i64 32) (.int .i64 32)).run Tryz.prog w = .ok (.slice (some ⟨w.heap.size, 0, none⟩) 32 32) (w.alloc (.cells (toldArr fun _ => 0) 3)) := by
  obtain ⟨i0, hi, hz0, hz1, hz2⟩ := info_parts Tryz.infoIntT
  have h := run_makeSlice (P := Tryz.prog) w 128 3 i0 (.int .i64 0) Tryz.underlying128 hi hz0 .i64 .i64 32 32 (by omega) (by omega) (by rw [hz1]; decide) (by rw [hz2]; decide) (by omega)
  rw [hz1] at h
  have e : madeCells (Value.cells (.int .i64 0)) (Int.toNat 32 * 1) = toldArr fun _ => 0 := by kernel_rfl
  rw [e] at h
  exact h
set_option maxRecDepth 100000 in
set_option maxHeartbeats 2000000 in
theorem rnew_any (m : Nat) (w : World) :
    Calls Tryz.prog 39 #[.pointer (some ⟨m, 0, none⟩)] w fun e w' => (∃ y h, e = .returned (.pointer (some ⟨y, 0, none⟩)) ∧ w.heap.size ≤ y ∧ w.heap.size ≤ h ∧ RTel w' y m h (fun _ => 0) 0) ∧ Below w.heap.size w w' := by
  have hmk := make_ints w
  go_enter Tryz.func39, Tryz.ntmps39
  go_wp2_with fail
  go_ret
  have hz : (w.alloc (.cells (toldArr fun _ => 0) 3)).heap.size = w.heap.size + 1 := by simp
  have n1 := nw (w.alloc (.cells (toldArr fun _ => 0) 3)) #[.pointer (some ⟨m, 0, none⟩), .slice (some ⟨w.heap.size, 0, none⟩) 32 32, .int .i64 0] 165
  rw [hz] at n1
  refine ⟨⟨w.heap.size + 1, w.heap.size, rfl, by omega, by omega, ⟨(n1 0).trans rfl, (n1 1).trans rfl, (n1 2).trans rfl, ?_, ToA.below ⟨_, heap_alloc_new w _⟩ (aB _ _), by omega, by omega⟩⟩, t2 (aB _ _) (aB _ _)⟩
  rw [← hz]
  exact frozen_of_row _ _ _ _ _ (heap_alloc_new _ _)
end Go.Proofs.YtifjoboaolpejaaGreatDoor

namespace Go.Proofs.YtifjoboaolpejaaGreatDoor
open Go.RowKit

/-- rows of these slots' cells from an address on. -/
theorem slCs_add (T : Tb) (s : Nat) : ∀ L : List Nat, slCs T (L ++ [s]) = slCs T L ++ slC T s
  | [] => by simp [slCs]
  | r :: L => by rw [List.cons_append, slCs, slCs, slCs_add T s L, List.append_assoc]
/-- a slice that owns the rows of these slots. -/
def OwnL (w : World) (base : Nat) (v : Value) (T : Tb) (L : List Nat) : Prop := w.ownsRow base 138 10 v L.length (slCs T L)
def RowL (w : World) (p : Option Addr) (T : Tb) (L : List Nat) : Prop := ∀ j s : Nat, L[j]? = some s → ∃ g, p = some ⟨g, 0, none⟩ ∧ ∀ k, k < 10 → w.cell? ⟨g, j * 10 + k, none⟩ = some (.int .i64 ((T s).get s k))
theorem OwnL.open {w : World} {base : Nat} {v : Value} {T : Tb} {L : List Nat} (h : OwnL w base v T L) : ∃ p cap, v = .slice p L.length cap ∧ RowL w p T L ∧ ∀ g, v.ownBlock = some g → base ≤ g := by
  have hlt : ∀ g, v.ownBlock = some g → base ≤ g := fun g hg => (World.ownsRow.lt h g hg).1
  obtain ⟨_, h2⟩ := h
  rcases h2 with ⟨rfl, h0⟩ | ⟨g, cap, cur, rfl, hg, hh, _, _, _, ht⟩
  · have : L = [] := List.length_eq_zero_iff.1 h0
    subst this
    exact ⟨none, 0, rfl, fun j s h => by simp at h, hlt⟩
  · refine ⟨_, cap, rfl, fun j s hj => ⟨g, rfl, fun k hk => ?_⟩, hlt⟩
    have hjl := (List.getElem?_eq_some_iff.1 hj).1
    have := slCs_at T L j s k hj hk
    rw [← ht, List.getElem?_take, if_pos (by omega), Array.getElem?_toList] at this
    rw [cell_of_row w g _ _ _ _ hh]
    exact this
theorem OwnL.below {w w' : World} {base : Nat} {v : Value} {T : Tb} {L : List Nat} (h : OwnL w base v T L) (hb : Below w.heap.size w w') : OwnL w' base v T L := by
  have hlt := fun g hg => (World.ownsRow.lt h g hg).2
  obtain ⟨h1, h2⟩ := h
  refine ⟨h1, ?_⟩
  rcases h2 with h2 | ⟨g, cap, cur, rfl, hg, hh, a, b, c, d⟩
  · exact .inl h2
  · exact .inr ⟨g, cap, cur, rfl, hg, by rw [hb.block g (hlt g rfl)]; exact hh, a, b, c, d⟩
theorem OwnL.chg {w w' : World} {base x : Nat} {v : Value} {T : Tb} {L : List Nat} (h : OwnL w base v T L) (hb : Chg x w w') (hx : x < base) : OwnL w' base v T L := by
  have hlt := fun g hg => (World.ownsRow.lt h g hg).2
  obtain ⟨h1, h2⟩ := h
  refine ⟨h1, ?_⟩
  rcases h2 with h2 | ⟨g, cap, cur, rfl, hg, hh, a, b, c, d⟩
  · exact .inl h2
  · exact .inr ⟨g, cap, cur, rfl, hg, by rw [hb.block g (hlt g rfl) (by omega)]; exact hh, a, b, c, d⟩
def takArr (L : List Nat) : Array Value := ((List.range 32).map fun k => .bool (decide (k ∈ L))).toArray
theorem takArr_size (L : List Nat) : (takArr L).size = 32 := by simp [takArr]
theorem takArr_at (L : List Nat) (k : Nat) (hk : k < 32) : (takArr L)[k]? = some (.bool (decide (k ∈ L))) := by
  simp only [takArr, List.getElem?_toArray, List.getElem?_map, List.getElem?_range hk, Option.map_some]
theorem takArr_put (L : List Nat) (s : Nat) (hs : s < 32) : (takArr L).setIfInBounds s (.bool true) = takArr (L ++ [s]) := by
  apply Array.ext_getElem?
  intro j
  rw [Array.getElem?_setIfInBounds, takArr_size]
  by_cases hj : j < 32
  · rw [takArr_at _ j hj, takArr_at _ j hj]
    by_cases e : s = j
    · subst e; rw [if_pos rfl, if_pos hj]; simp
    · rw [if_neg e]
      have : (j ∈ L ++ [s]) ↔ j ∈ L := by simp; intro h; exact (e h.symm).elim
      rw [decide_eq_decide.2 this]
  · rw [if_neg (by omega), Array.getElem?_eq_none (by rw [takArr_size]; omega), Array.getElem?_eq_none (by rw [takArr_size]; omega)]
/-- which slots are taken, in memory. -/
def TakA (w : World) (q : Nat) (L : List Nat) : Prop := ∃ ty, w.heap[q]? = some (.cells (takArr L) ty (0, 0))
theorem TakA.at' {w : World} {q : Nat} {L : List Nat} (a : TakA w q L) {k : Nat} (hk : k < 32) : w.cell? ⟨q, k, none⟩ = some (.bool (decide (k ∈ L))) := by
  obtain ⟨ty, e⟩ := a
  rw [cell_of_row w q _ _ _ _ e, takArr_at L k hk]
theorem TakA.fr {w : World} {q : Nat} {L : List Nat} (a : TakA w q L) (j : Nat) : w.frozen? ⟨q, j, none⟩ = false := by
  obtain ⟨ty, e⟩ := a
  exact frozen_of_row w q j _ _ e
theorem TakA.lt {w : World} {q : Nat} {L : List Nat} (a : TakA w q L) : q < w.heap.size := tlt (a.at' (k := 0) (by omega))
theorem TakA.chg {w w' : World} {q b : Nat} {L : List Nat} (a : TakA w q L) (hb : Chg b w w') (hn : q ≠ b) : TakA w' q L := by
  have hl := a.lt
  obtain ⟨ty, e⟩ := a
  exact ⟨ty, by rw [hb.block q hl hn]; exact e⟩
theorem TakA.below {w w' : World} {q : Nat} {L : List Nat} (a : TakA w q L) (hb : Below w.heap.size w w') : TakA w' q L := by
  have hl := a.lt
  obtain ⟨ty, e⟩ := a
  exact ⟨ty, by rw [hb.block q hl]; exact e⟩
theorem TakA.grown {w w' : World} {q : Nat} {L : List Nat} {o : Option Nat} (a : TakA w q L) (hb : w.grownBy w' o) (hn : some q ≠ o) : TakA w' q L := by
  have hl := a.lt
  obtain ⟨ty, e⟩ := a
  exact ⟨ty, by rw [hb.block q hl hn]; exact e⟩
theorem TakA.put {w : World} {q : Nat} {L : List Nat} (a : TakA w q L) {s : Nat} (hs : s < 32) : TakA (w.setCell ⟨q, s, none⟩ (.bool true)) q (L ++ [s]) := by
  obtain ⟨ty, e⟩ := a
  exact ⟨ty, by rw [heap_setCell_same w q _ _ _ _ e, takArr_put L s hs]⟩
theorem Tryz.infoBool : (Tryz.prog.info? 4).map (fun i => (i.zero, i.size, i.bytes)) = some (some (.bool false), 1, 1) := by kernel_rfl
theorem make_bools (w : World) : (Instr.makeSlice 218 (.int .i64 32) (.int .i64 32)).run Tryz.prog w = .ok (.slice (some ⟨w.heap.size, 0, none⟩) 32 32) (w.alloc (.cells (takArr []) 4)) := by
  obtain ⟨i0, hi, hz0, hz1, hz2⟩ := info_parts Tryz.infoBool
  have h := run_makeSlice (P := Tryz.prog) w 218 4 i0 (.bool false) Tryz.underlying218 hi hz0 .i64 .i64 32 32 (by omega) (by omega) (by rw [hz1]; decide) (by rw [hz2]; decide) (by omega)
  rw [hz1] at h
  have e : madeCells (Value.cells (.bool false)) (Int.toNat 32 * 1) = takArr [] := by kernel_rfl
  rw [e] at h
  exact h
/-- how the document's Next stands: the batch so far, the cursor. -/
structure Rn (w W : World) (y m h g cap q : Nat) (low : Int) (T : Tb) (D : To) (L : List Nat) (c : Nat) (v : Value) : Prop where
  t : RTab W m g cap low T
  r : RTel W y m h D c
  k : TakA W q L
  o : OwnL W (w.heap.size + 1) v T L
  x : Chg2 y h w W
  eq : q = w.heap.size
  ym : y < w.heap.size ∧ m < w.heap.size ∧ h < w.heap.size ∧ g < w.heap.size
  ne : m ≠ y ∧ m ≠ h ∧ g ≠ y ∧ g ≠ h
theorem Rn.below {w W W' : World} {y m h g cap q : Nat} {low : Int} {T : Tb} {D : To} {L : List Nat} {c : Nat} {v : Value} (f : Rn w W y m h g cap q low T D L c v) (hb : Below W.heap.size W W') : Rn w W' y m h g cap q low T D L c v :=
  ⟨f.t.below hb, f.r.below hb, f.k.below hb, f.o.below hb, f.x.then hb, f.eq, f.ym, f.ne⟩
/-- a row was appended. -/
theorem Rn.grown {w W W' : World} {y m h g cap q : Nat} {low : Int} {T : Tb} {D : To} {L L' : List Nat} {c : Nat} {v v' : Value} (f : Rn w W y m h g cap q low T D L c v) (hg : W.grownBy W' v.ownBlock) (ho : OwnL W' (w.heap.size + 1) v' T L') :
    RTab W' m g cap low T ∧ RTel W' y m h D c ∧ TakA W' q L ∧ OwnL W' (w.heap.size + 1) v' T L' ∧ Chg2 y h w W' := by
  have hlt : ∀ x, v.ownBlock = some x → w.heap.size + 1 ≤ x := fun x hx => (World.ownsRow.lt f.o x hx).1
  have hym := f.ym
  have heq := f.eq
  cases hv : v.ownBlock with
  | none =>
    rw [hv] at hg
    have hb : Below W.heap.size W W' := ⟨hg.os, hg.tape, hg.output, hg.size, fun k hk => hg.block k hk (by simp)⟩
    exact ⟨f.t.below hb, f.r.below hb, f.k.below hb, ho, f.x.then hb⟩
  | some z =>
    rw [hv] at hg
    have hz := hlt z hv
    have hc := chg_grown hg
    exact ⟨f.t.chg hc (by omega) (by omega), f.r.chg hc (by omega) (by omega), f.k.chg hc (by omega), ho, f.x.on hc (.inr (.inr (by omega)))⟩
theorem Rn.taken {w W : World} {y m h g cap q : Nat} {low : Int} {T : Tb} {D : To} {L L' : List Nat} {c : Nat} {v : Value} (t : RTab W m g cap low T) (r : RTel W y m h D c) (k : TakA W q L) (o : OwnL W (w.heap.size + 1) v T L') (x : Chg2 y h w W) (eq : q = w.heap.size) (ym : y < w.heap.size ∧ m < w.heap.size ∧ h < w.heap.size ∧ g < w.heap.size) (ne : m ≠ y ∧ m ≠ h ∧ g ≠ y ∧ g ≠ h) {s : Nat} (hs : s < 32) (e : L' = L ++ [s]) :
    Rn w (W.setCell ⟨q, s, none⟩ (.bool true)) y m h g cap q low T D L' c v := by
  have hc := Chg.set q s W (.bool true)
  subst e
  exact ⟨t.chg hc (by omega) (by omega), r.chg hc (by omega) (by omega), k.put hs, o.chg hc (by omega), x.on hc (.inr (.inr (by omega))), eq, ym, ne⟩
theorem Rn.cur {w W : World} {y m h g cap q : Nat} {low : Int} {T : Tb} {D : To} {L : List Nat} {c : Nat} {v : Value} (f : Rn w W y m h g cap q low T D L c v) {c' : Nat} (hc' : c' ≤ 32) : Rn w (W.setCell ⟨y, 2, none⟩ (.int .i64 c')) y m h g cap q low T D L c' v := by
  have hc := Chg.set y 2 W (.int .i64 c')
  have hym := f.ym
  have heq := f.eq
  exact ⟨f.t.chg hc f.ne.1 f.ne.2.2.1, f.r.cur hc', f.k.chg hc (by omega), f.o.chg hc (by omega), f.x.on hc (.inl rfl), f.eq, f.ym, f.ne⟩
theorem Rn.told {w W : World} {y m h g cap q : Nat} {low : Int} {T : Tb} {D : To} {L : List Nat} {c : Nat} {v : Value} (f : Rn w W y m h g cap q low T D L c v) {s : Nat} (hs : s < 32) (x : Int) : Rn w (W.setCell ⟨h, s, none⟩ (.int .i64 x)) y m h g cap q low T (fun k => if k = s then x else D k) L c v := by
  have hc := Chg.set h s W (.int .i64 x)
  have hym := f.ym
  have heq := f.eq
  exact ⟨f.t.chg hc f.ne.2.1 f.ne.2.2.2, f.r.put x hs, f.k.chg hc (by omega), f.o.chg hc (by omega), f.x.on hc (.inr (.inl rfl)), f.eq, f.ym, f.ne⟩
end Go.Proofs.YtifjoboaolpejaaGreatDoor

namespace Go.Proofs.YtifjoboaolpejaaGreatDoor
open Go.RowKit Go.Maps

theorem fillM_c2 {w : World} {X c j l cap : Nat} {p : Option Addr} (h2 : w.cell? ⟨X, 2, none⟩ = some (.int .i64 ((c + j) % 32 : Nat))) (hc : c < 32) (hj : j < 32) (hl : l < 8) : fillM X c (.slice p l cap) w = 33 - j := by
  unfold fillM curOf lenV
  rw [h2]
  simp only
  rw [if_neg (by omega)]
  have : (Int.toNat (((c + j) % 32 : Nat) : Int)) = (c + j) % 32 := Int.toNat_natCast _
  rw [this]
  omega
theorem fill_meas2 {wr w' : World} {X c j l l' cap cap' : Nat} {p q : Option Addr} (h2 : wr.cell? ⟨X, 2, none⟩ = some (.int .i64 ((c + j) % 32 : Nat))) (h2' : w'.cell? ⟨X, 2, none⟩ = some (.int .i64 ((c + (j + 1)) % 32 : Nat))) (hc : c < 32) (hj : j < 32) (hl : l < 8) (hs : l' < 8 → j + 1 < 32) : fillM X c (.slice q l' cap') w' < fillM X c (.slice p l cap) wr := by
  rw [fillM_c2 h2 hc hj hl]
  by_cases h8 : l' < 8
  · rw [fillM_c2 h2' hc (hs (by omega)) h8]; omega
  · rw [fillM_full (by omega)]; omega
/-- where it points to is new. -/
def FrP (n : Nat) (p : Option Addr) : Prop := ∀ b, p = some b → n ≤ b.block
theorem own_slice {w : World} {base : Nat} {v : Value} {T : Tb} {L : List Nat} (h : OwnL w base v T L) : ∃ p cap, v = .slice p L.length cap := by
  obtain ⟨p, cap, e, _⟩ := h.open
  exact ⟨p, cap, e⟩
/-- the first eight that are new, at a place where the looking ends. -/
theorem news_upto {T : Tb} {D : To} {i : Nat} {L : List Nat} (hL : L = (List.range i).filter fun s => (T s).ve != D s) (hi : i ≤ 32) (h8 : L.length ≤ 8) (hend : i = 32 ∨ L.length = 8) : L = (newsL T D).take 8 := by
  have hs : List.range 32 = List.range i ++ (List.range (32 - i)).map (i + ·) := by
    rw [← List.range_add]
    congr 1
    omega
  have hn : newsL T D = L ++ ((List.range (32 - i)).map (i + ·)).filter fun s => (T s).ve != D s := by
    unfold newsL
    rw [hs, List.filter_append, ← hL]
  rcases hend with rfl | h
  · rw [hn]
    simp only [Nat.sub_self, List.range_zero, List.map_nil, List.filter_nil, List.append_nil]
    rw [List.take_of_length_le h8]
  · rw [hn, ← h, List.take_left]
set_option maxRecDepth 100000 in
set_option maxHeartbeats 16000000 in
theorem rnext_any (y m h g cap c : Nat) (low : Int) (T : Tb) (D : To) (w : World) (t : RTab w m g cap low T) (r : RTel w y m h D c) (hc : c < 32) (hne : m ≠ y ∧ m ≠ h ∧ g ≠ y ∧ g ≠ h) :
    Calls Tryz.prog 95 #[.pointer (some ⟨y, 0, none⟩)] w fun e w' => ∃ L c' p cp, Nx T D c L c' ∧ e = .returned (.slice p 8 cp) ∧ RowL w' p T L ∧ FrP w.heap.size p ∧ RTab w' m g cap low T ∧ RTel w' y m h (toldD T D L) c' ∧ Chg2 y h w w' := by
  obtain ⟨i0, hi, hz0, hz1, hz2⟩ := info_parts Tryz.infoCell
  have hmk := make_bools w
  obtain ⟨q, hq⟩ : ∃ q, q = w.heap.size := ⟨_, rfl⟩
  have HQ : Hid (q = w.heap.size) := hq
  have R0 : Hid (Rn w (w.alloc (.cells (takArr []) 4)) y m h g cap q low T D [] c (.slice none 0 0)) := by
    have e1 := tlt r.c0
    have e2 := tlt t.c0
    have e3 := r.a.lt
    have e4 := t.sl.lt
    simp only at e1 e2
    exact ⟨t.below (aB _ _), r.below (aB _ _), ⟨_, by rw [hq]; exact heap_alloc_new w _⟩, World.ownsRow_nil _ _ _ _, Chg2.of (aB _ _), hq, ⟨e1, e2, e3, e4⟩, hne⟩
  rw [← hq] at hmk
  clear t r hne hq
  go_enter Tryz.func95, Tryz.ntmps95
  go_wp2_with fail
  clear hmk
  generalize w.alloc (.cells (takArr []) 4) = w0 at *
  go_loopw [3, 5] (fun v ti wr => ∃ (i : Nat) (L : List Nat), i ≤ 32 ∧ ti = .int .i64 i ∧ L = ((List.range i).filter fun s => (T s).ve != D s) ∧ L.length ≤ 8 ∧ Rn w wr y m h g cap q low T D L c v) (fun _ ti _ => 32 - (intOf ti).toNat)
  case atStart => exact ⟨0, [], by omega, rfl, rfl, by simp, R0.out⟩
  case round =>
    obtain ⟨i, L, hi32, rfl, hL, h8, hr⟩ := hrel
    obtain ⟨p, cp, rfl⟩ := own_slice hr.o
    have HL : Hid (L = ((List.range i).filter fun s => (T s).ve != D s)) := hL
    have R1 : Hid (Rn w wr y m h g cap q low T D L c (.slice p L.length cp)) := hr
    clear hL hr R0
    by_cases hgo : i < 32 ∧ L.length < 8
    · obtain ⟨hlt, hl8⟩ := hgo
      have j0 : (0 : Int) ≤ (i : Int) := by omega
      have j1 : (i : Int) < 32 := by omega
      have j2 : (L.length : Int) < 8 := by omega
      have d0 := R1.out.r.c0
      have d1 := R1.out.r.c1
      have d2 := R1.out.r.a.at' hlt
      have m1 := R1.out.t.c1
      have s1 := R1.out.t.sl.at' (k := 1) hlt (by omega)
      simp only [Ce.get] at s1
      have HS : Hid (((List.range (i + 1)).filter fun s => (T s).ve != D s) = L ++ if ((T i).ve != D i) = true then [i] else []) := by
        show _ = _
        rw [List.range_succ, List.filter_append, ← HL.out]
        by_cases hq : ((T i).ve != D i) = true <;> simp [hq]
      have R2 : Hid (Rn w wr.drew y m h g cap q low T D L c (.slice p L.length cp)) := R1.out.below (Below.refl _ _).drew
      clear R1
      rcases hq : ((T i).ve != D i) with _ | _
      · go_wp2_with fail
        go_region
        all_goals
          go_wp2_with fail
          go_roundw
          case rel => exact ⟨i + 1, L, by omega, by go_num, by rw [HS.out, if_neg (by rw [hq]; simp), List.append_nil], h8, R2.out⟩
          case measure => simp [intOf]; omega
      · have HS2 : Hid (((List.range (i + 1)).filter fun s => (T s).ve != D s) = L ++ [i]) := by show _ = _; rw [HS.out, if_pos hq]
        clear HS
        go_wp2_with fail
        go_region
        clear hq d0 d1 d2 m1 s1
        generalize wr.drew = W at *
        have d0 := R2.out.r.c0
        have m1 := R2.out.t.c1
        have s0 := R2.out.t.sl.at' (k := 0) hlt (by omega)
        have s1 := R2.out.t.sl.at' (k := 1) hlt (by omega)
        have s2 := R2.out.t.sl.at' (k := 2) hlt (by omega)
        have s3 := R2.out.t.sl.at' (k := 3) hlt (by omega)
        have s4 := R2.out.t.sl.at' (k := 4) hlt (by omega)
        have s5 := R2.out.t.sl.at' (k := 5) hlt (by omega)
        have s6 := R2.out.t.sl.at' (k := 6) hlt (by omega)
        have s7 := R2.out.t.sl.at' (k := 7) hlt (by omega)
        have s8 := R2.out.t.sl.at' (k := 8) hlt (by omega)
        have s9 := R2.out.t.sl.at' (k := 9) hlt (by omega)
        simp only [Ce.get, Nat.add_zero] at s0 s1 s2 s3 s4 s5 s6 s7 s8 s9
        have N4 : Hid (∀ q u, (slC T i)[q]? = some u → (W.alloc (.cells #[.int .i64 i, .int .i64 (T i).ve, .int .i64 (T i).pr, .int .i64 (T i).ia, .int .i64 (T i).ip, .int .i64 (T i).fa, .int .i64 (T i).fp, .int .i64 (T i).po, .int .i64 (T i).st, .int .i64 (T i).un] 138)).cell? (Addr.add ⟨W.heap.size, 0, none⟩ q) = some u) := fun q u hu => by
          rw [tadd, Nat.zero_add, nw]; simpa [slC] using hu
        have hbs : w.heap.size ≤ W.heap.size := R2.out.x.size
        go_wp2_with (at_builtin; refine wpList_append_own _ rfl _ _ 51 rfl (w.heap.size + 1) 138 i0 _ 10 80 Tryz.underlying51 hi hz0 hz1 hz2 rfl (by decide) (.slice p L.length cp) L.length (slCs T L) rfl (World.ownsRow.alloc R2.out.o _) ⟨W.heap.size, 0, none⟩ 1 1 (slC T i) rfl rfl N4.out (slC_one T i) (by unfold maxLen; omega) (by omega) (by simp; omega) ?_)
        intro v5 w5 hO5 hg5 _
        obtain ⟨u1, u2, u3, u4, u5⟩ := (R2.out.below (aB W _)).grown hg5 (v' := v5) (L' := L ++ [i]) (by unfold OwnL; rw [slCs_add, List.length_append]; exact hO5)
        have U : Hid (Rn w (w5.setCell ⟨q, i, none⟩ (.bool true)) y m h g cap q low T D (L ++ [i]) c v5) := Rn.taken u1 u2 u3 u4 u5 R2.out.eq R2.out.ym R2.out.ne hlt rfl
        obtain ⟨bb, k5⟩ : ∃ bb, w5.cell? ⟨q, i, none⟩ = some (.bool bb) := ⟨_, u3.at' hlt⟩
        have f5 := u3.fr i
        clear u1 u2 u3 u4 u5 hO5 hg5 N4 R2 s0 s1 s2 s3 s4 s5 s6 s7 s8 s9 d0 m1
        go_wp2_with fail
        go_roundw
        case rel => exact ⟨i + 1, L ++ [i], by omega, by go_num, HS2.out.symm, by rw [List.length_append]; simp; omega, U.out⟩
        case measure => simp [intOf]; omega
    · have HB : Hid (L = (newsL T D).take 8) := news_upto HL.out hi32 h8 (by omega)
      clear HL
      have hend : ((i : Int) < 32 ∧ ¬ (L.length : Int) < 8) ∨ ¬ (i : Int) < 32 := by omega
      rcases hend with ⟨j1, j2⟩ | j1
      all_goals
        go_wp2_with fail
        go_loopw [3] (fun v wi => ∃ j : Nat, (∀ i, i < j → (wk L c i).length < 8) ∧ Rn w wi y m h g cap q low T D (wk L c j) ((c + j) % 32) v) (fun v wi => fillM y c v wi)
        case atStart => exact ⟨0, fun i hi => by omega, by rw [Nat.add_zero, Nat.mod_eq_of_lt hc]; exact R1.out⟩
        case round =>
          obtain ⟨j, hs, hr⟩ := hrel
          obtain ⟨p2, cp2, rfl⟩ := own_slice hr.o
          have HSJ : Hid (∀ i, i < j → (wk L c i).length < 8) := hs
          have R2 : Hid (Rn w wr y m h g cap q low T D (wk L c j) ((c + j) % 32) (.slice p2 (wk L c j).length cp2)) := hr
          clear hs hr R1
          by_cases hlt : (wk L c j).length < 8
          · have hj32 : j < 32 := wk_short HSJ.out hlt
            have hl8 : ((wk L c j).length : Int) < 8 := by omega
            have HM : Hid (wr.cell? ⟨y, 2, none⟩ = some (.int .i64 ((c + j) % 32 : Nat))) := R2.out.r.c2
            have HNX : Hid (∀ i, i < j + 1 → (wk L c i).length < 8) := fun i hi => by
              by_cases e : i = j
              · rw [e]; exact hlt
              · exact HSJ.out i (by omega)
            obtain ⟨cu, hcu⟩ : ∃ cu, cu = (c + j) % 32 := ⟨_, rfl⟩
            have HCU : Hid (cu = (c + j) % 32) := hcu
            have hcl : cu < 32 := by omega
            rw [← hcu] at R2
            have y0 : (0 : Int) ≤ (cu : Int) := by omega
            have y1 : (cu : Int) < 32 := by omega
            have c2 := R2.out.r.c2
            have f2 := R2.out.r.f2
            have kk := R2.out.k.at' hcl
            have hyl := tlt c2
            simp only at hyl
            clear hcu HSJ
            by_cases hm : cu ∈ wk L c j
            · have HW : Hid (wk L c (j + 1) = wk L c j) := wk_in (by rw [← HCU.out]; exact hm)
              have hd : decide (cu ∈ wk L c j) = true := decide_eq_true hm
              rw [hd] at kk
              clear hd hm
              by_cases h31 : cu = 31
              · have H31 : Hid (cu = 31) := h31
                have h31' : ((cu : Int) + 1 == 32) = true := by rw [h31]; rfl
                clear h31
                have R4 : Hid (Rn w ((wr.setCell ⟨y, 2, none⟩ (.int .i64 ((cu : Int) + 1))).setCell ⟨y, 2, none⟩ (.int .i64 0)) y m h g cap q low T D (wk L c (j + 1)) ((c + (j + 1)) % 32) (.slice p2 (wk L c j).length cp2)) := by
                  rw [HW.out, show (c + (j + 1)) % 32 = 0 from by have := HCU.out; have := H31.out; omega]
                  exact (R2.out.cur (c' := cu + 1) (by omega)).cur (c' := 0) (by omega)
                clear R2
                go_wp2_with fail
                go_roundw
                case rel => exact ⟨j + 1, HNX.out, R4.out⟩
                case measure => exact fill_meas2 HM.out R4.out.r.c2 hc hj32 hlt (fun h => wk_short HNX.out (by rw [HW.out]; exact h))
              · have h31' : ((cu : Int) + 1 == 32) = false := beq_eq_false_iff_ne.2 (by omega)
                have R4 : Hid (Rn w (wr.setCell ⟨y, 2, none⟩ (.int .i64 ((cu : Int) + 1))) y m h g cap q low T D (wk L c (j + 1)) ((c + (j + 1)) % 32) (.slice p2 (wk L c j).length cp2)) := by
                  rw [HW.out, show (c + (j + 1)) % 32 = cu + 1 from by have := HCU.out; omega]
                  exact R2.out.cur (c' := cu + 1) (by omega)
                clear R2
                go_wp2_with fail
                go_roundw
                case rel => exact ⟨j + 1, HNX.out, R4.out⟩
                case measure => exact fill_meas2 HM.out R4.out.r.c2 hc hj32 hlt (fun h => wk_short HNX.out (by rw [HW.out]; exact h))
            · have HW : Hid (wk L c (j + 1) = wk L c j ++ [cu]) := by show _ = _; rw [wk_out (by rw [← HCU.out]; exact hm), ← HCU.out]
              have hd : decide (cu ∈ wk L c j) = false := decide_eq_false hm
              rw [hd] at kk
              clear hd hm
              have d0 := R2.out.r.c0
              have m1 := R2.out.t.c1
              have s0 := R2.out.t.sl.at' (k := 0) hcl (by omega)
              have s1 := R2.out.t.sl.at' (k := 1) hcl (by omega)
              have s2 := R2.out.t.sl.at' (k := 2) hcl (by omega)
              have s3 := R2.out.t.sl.at' (k := 3) hcl (by omega)
              have s4 := R2.out.t.sl.at' (k := 4) hcl (by omega)
              have s5 := R2.out.t.sl.at' (k := 5) hcl (by omega)
              have s6 := R2.out.t.sl.at' (k := 6) hcl (by omega)
              have s7 := R2.out.t.sl.at' (k := 7) hcl (by omega)
              have s8 := R2.out.t.sl.at' (k := 8) hcl (by omega)
              have s9 := R2.out.t.sl.at' (k := 9) hcl (by omega)
              simp only [Ce.get, Nat.add_zero] at s0 s1 s2 s3 s4 s5 s6 s7 s8 s9
              have N4 : Hid (∀ q u, (slC T cu)[q]? = some u → (wr.alloc (.cells #[.int .i64 cu, .int .i64 (T cu).ve, .int .i64 (T cu).pr, .int .i64 (T cu).ia, .int .i64 (T cu).ip, .int .i64 (T cu).fa, .int .i64 (T cu).fp, .int .i64 (T cu).po, .int .i64 (T cu).st, .int .i64 (T cu).un] 138)).cell? (Addr.add ⟨wr.heap.size, 0, none⟩ q) = some u) := fun q u hu => by
                rw [tadd, Nat.zero_add, nw]; simpa [slC] using hu
              have hbs : w.heap.size ≤ wr.heap.size := R2.out.x.size
              go_wp2_with (at_builtin; refine wpList_append_own _ rfl _ _ 51 rfl (w.heap.size + 1) 138 i0 _ 10 80 Tryz.underlying51 hi hz0 hz1 hz2 rfl (by decide) (.slice p2 (wk L c j).length cp2) (wk L c j).length (slCs T (wk L c j)) rfl (World.ownsRow.alloc R2.out.o _) ⟨wr.heap.size, 0, none⟩ 1 1 (slC T cu) rfl rfl N4.out (slC_one T cu) (by unfold maxLen; omega) (by omega) (by simp; omega) ?_)
              intro v5 w5 hO5 hg5 _
              obtain ⟨u1, u2, u3, u4, u5⟩ := (R2.out.below (aB wr _)).grown hg5 (v' := v5) (L' := wk L c j ++ [cu]) (by unfold OwnL; rw [slCs_add, List.length_append]; exact hO5)
              have U : Hid (Rn w (w5.setCell ⟨q, cu, none⟩ (.bool true)) y m h g cap q low T D (wk L c j ++ [cu]) cu v5) := Rn.taken u1 u2 u3 u4 u5 R2.out.eq R2.out.ym R2.out.ne hcl rfl
              obtain ⟨bb, k5⟩ : ∃ bb, w5.cell? ⟨q, cu, none⟩ = some (.bool bb) := ⟨_, u3.at' hcl⟩
              have f5 := u3.fr cu
              have c25 := u2.c2
              have f25 := u2.f2
              have hqy : q ≠ y := by have := R2.out.ym; have := R2.out.eq; omega
              have hyq : y ≠ q := fun e => hqy e.symm
              rw [← HW.out] at u4
              obtain ⟨p5, cp5, rfl⟩ := own_slice u4
              rw [← HW.out] at U
              clear u1 u2 u3 u4 u5 hO5 hg5 N4 R2 s0 s1 s2 s3 s4 s5 s6 s7 s8 s9 d0 m1 kk c2 f2
              by_cases h31 : cu = 31
              · have H31 : Hid (cu = 31) := h31
                have h31' : ((cu : Int) + 1 == 32) = true := by rw [h31]; rfl
                clear h31
                have R4 : Hid (Rn w (((w5.setCell ⟨q, cu, none⟩ (.bool true)).setCell ⟨y, 2, none⟩ (.int .i64 ((cu : Int) + 1))).setCell ⟨y, 2, none⟩ (.int .i64 0)) y m h g cap q low T D (wk L c (j + 1)) ((c + (j + 1)) % 32) (.slice p5 (wk L c (j + 1)).length cp5)) := by
                  rw [show (c + (j + 1)) % 32 = 0 from by have := HCU.out; have := H31.out; omega]
                  exact (U.out.cur (c' := cu + 1) (by omega)).cur (c' := 0) (by omega)
                clear U
                go_wp2_with fail
                go_roundw
                case rel => exact ⟨j + 1, HNX.out, R4.out⟩
                case measure => exact fill_meas2 HM.out R4.out.r.c2 hc hj32 hlt (fun h => wk_short HNX.out h)
              · have h31' : ((cu : Int) + 1 == 32) = false := beq_eq_false_iff_ne.2 (by omega)
                have R4 : Hid (Rn w ((w5.setCell ⟨q, cu, none⟩ (.bool true)).setCell ⟨y, 2, none⟩ (.int .i64 ((cu : Int) + 1))) y m h g cap q low T D (wk L c (j + 1)) ((c + (j + 1)) % 32) (.slice p5 (wk L c (j + 1)).length cp5)) := by
                  rw [show (c + (j + 1)) % 32 = cu + 1 from by have := HCU.out; omega]
                  exact U.out.cur (c' := cu + 1) (by omega)
                clear U
                go_wp2_with fail
                go_roundw
                case rel => exact ⟨j + 1, HNX.out, R4.out⟩
                case measure => exact fill_meas2 HM.out R4.out.r.c2 hc hj32 hlt (fun h => wk_short HNX.out h)
          · have hlt' : ¬ ((wk L c j).length : Int) < 8 := by omega
            have HX : Hid (Nx T D c (wk L c j) ((c + j) % 32)) := by
              have hu : Full L c j := ⟨HSJ.out, by omega⟩
              rw [HB.out] at hu ⊢
              exact ⟨j, hu, rfl, rfl⟩
            have R3 : Hid (Rn w wr y m h g cap q low T (toldD T D ((wk L c j).take 0)) (wk L c j) ((c + j) % 32) (.slice p2 (wk L c j).length cp2)) := by rw [toldD_zero]; exact R2.out
            have h88 : (wk L c j).length = 8 := HX.out.len
            rw [h88] at R3 ⊢
            obtain ⟨F, hF⟩ : ∃ F, F = wk L c j := ⟨_, rfl⟩
            obtain ⟨c', hc'⟩ : ∃ c', c' = (c + j) % 32 := ⟨_, rfl⟩
            rw [← hF, ← hc'] at HX R3
            clear hF hc' h88 hlt' R2 HSJ
            go_wp2_with fail
            go_loopw [7] (fun t wi => ∃ k : Nat, k ≤ 8 ∧ t = .int .i64 k ∧ Rn w wi y m h g cap q low T (toldD T D (F.take k)) F c' (.slice p2 8 cp2)) (fun t _ => 8 - (intOf t).toNat)
            case atStart => exact ⟨0, by omega, rfl, R3.out⟩
            case round =>
              obtain ⟨k, hk, rfl, hr⟩ := hrel
              have R4 : Hid (Rn w wr y m h g cap q low T (toldD T D (F.take k)) F c' (.slice p2 8 cp2)) := hr
              clear hr R3
              have hF8 := HX.out.len
              by_cases hlt : k < 8
              · have z0 : (0 : Int) ≤ (k : Int) := by omega
                have z1 : (k : Int) < 8 := by omega
                obtain ⟨s, hs⟩ : ∃ s, F[k]? = some s := ⟨_, List.getElem?_eq_getElem (by omega)⟩
                have hs32 : s < 32 := HX.out.lt s (List.mem_of_getElem? hs)
                have z2 : (0 : Int) ≤ (s : Int) := by omega
                have z3 : (s : Int) < 32 := by omega
                obtain ⟨p6, cp6, e6, hrow, _⟩ := R4.out.o.open
                injection e6 with e61 _ _
                obtain ⟨g6, e7, hcs⟩ := hrow k s hs
                rw [← e61] at e7
                subst e7
                have a0 := hcs 0 (by omega)
                have a1 := hcs 1 (by omega)
                simp only [Ce.get, Nat.add_zero] at a0 a1
                have d1 := R4.out.r.c1
                have d2 := R4.out.r.a.at' hs32
                have d3 := R4.out.r.a.fr s
                have R5 : Hid (Rn w (wr.setCell ⟨h, s, none⟩ (.int .i64 (T s).ve)).drew y m h g cap q low T (toldD T D (F.take (k + 1))) F c' (.slice (some ⟨g6, 0, none⟩) 8 cp2)) := by
                  rw [toldD_next hs]
                  exact (R4.out.told hs32 _).below (Below.refl _ _).drew
                clear hs e61 hrow hcs hF8 R4
                go_wp2_with fail
                go_region
                all_goals
                  go_wp2_with fail
                  go_roundw
                  case rel => exact ⟨k + 1, by omega, by go_num, R5.out⟩
                  case measure => simp [intOf]; omega
              · obtain rfl : k = 8 := by omega
                go_wp2_with fail
                go_ret
                obtain ⟨p6, cp6, e6, hrow, hfr⟩ := R4.out.o.open
                injection e6 with e61 _ _
                rw [← e61] at hrow
                refine ⟨F, c', p2, cp2, HX.out, rfl, hrow, fun b e => ?_, R4.out.t, ?_, R4.out.x⟩
                · obtain ⟨s0, hs0⟩ : ∃ s0, F[0]? = some s0 := ⟨_, List.getElem?_eq_getElem (by have := HX.out.len; omega)⟩
                  obtain ⟨g0, e0, _⟩ := hrow 0 s0 hs0
                  rw [e] at e0
                  cases e0
                  have := hfr g0 (by rw [e]; rfl)
                  show w.heap.size ≤ g0
                  omega
                have := R4.out.r
                rw [List.take_of_length_le (by omega)] at this
                exact this
end Go.Proofs.YtifjoboaolpejaaGreatDoor

namespace Go.Proofs.YtifjoboaolpejaaGreatDoor
open Go.RowKit

/-- the document's mirror in memory. -/
structure RMir (w : World) (m g cap : Nat) (life : Int) (T : Tb) : Prop where
  c0 : w.cell? ⟨m, 0, none⟩ = some (.int .i64 life)
  c1 : w.cell? ⟨m, 1, none⟩ = some (.slice (some ⟨g, 0, none⟩) 32 cap)
  f0 : w.frozen? ⟨m, 0, none⟩ = false
  f1 : w.frozen? ⟨m, 1, none⟩ = false
  sl : Sl10 w g T
  ne : m ≠ g
theorem TcAt.chg2 {w w' : World} {b o m g : Nat} {x : Tc} (h : TcAt w b o x) (hb : Chg2 m g w w') (h1 : b ≠ m) (h2 : b ≠ g) : TcAt w' b o x :=
  ⟨hb.keeps h1 h2 h.c0, hb.keeps h1 h2 h.c1, hb.keeps h1 h2 h.c2, hb.keeps h1 h2 h.c3, hb.keeps h1 h2 h.c4, hb.keeps h1 h2 h.c5, hb.keeps h1 h2 h.c6, hb.keeps h1 h2 h.c7, hb.keeps h1 h2 h.c8, hb.keeps h1 h2 h.c9⟩
theorem Mir.chg2 {w w' : World} {b m g : Nat} {life : Int} {T : Tb} (h : Mir w b life T) (k : Chg2 m g w w') (h1 : b ≠ m) (h2 : b ≠ g) : Mir w' b life T := by
  unfold Mir; rw [k.block b h.lt h1 h2]; exact h
theorem RMir.below {w w' : World} {m g cap : Nat} {life : Int} {T : Tb} (h : RMir w m g cap life T) (hb : Below w.heap.size w w') : RMir w' m g cap life T :=
  ⟨tk hb h.c0, tk hb h.c1, (frozen_of_block (hb.block m (tlt h.c0))).trans h.f0, (frozen_of_block (hb.block m (tlt h.c0))).trans h.f1, h.sl.below hb, h.ne⟩
theorem RMir.chg {w w' : World} {m g cap b : Nat} {life : Int} {T : Tb} (h : RMir w m g cap life T) (hb : Chg b w w') (hm : m ≠ b) (hg : g ≠ b) : RMir w' m g cap life T :=
  ⟨hb.keeps hm h.c0, hb.keeps hm h.c1, (frozen_of_block (hb.block m (tlt h.c0) hm)).trans h.f0, (frozen_of_block (hb.block m (tlt h.c0) hm)).trans h.f1, h.sl.chg hb hg, h.ne⟩
theorem RMir.on {w w' : World} {m g cap : Nat} {life : Int} {T U : Tb} (h : RMir w m g cap life T) (hb : Chg g w w') (hs : Sl10 w' g U) : RMir w' m g cap life U :=
  ⟨hb.keeps h.ne h.c0, hb.keeps h.ne h.c1, (frozen_of_block (hb.block m (tlt h.c0) h.ne)).trans h.f0, (frozen_of_block (hb.block m (tlt h.c0) h.ne)).trans h.f1, hs, h.ne⟩
theorem put_all2 (d c : Ce) : (((((((((d.put c.ve 1).put c.pr 2).put c.ia 3).put c.ip 4).put c.fa 5).put c.fp 6).put c.po 7).put c.st 8).put c.un 9) = c := by
  cases c
  rfl
theorem slm_put10 {w : World} {b : Nat} {T : Tb} (h : Sl10 w b T) (k : Nat) (c : Ce) (hk : k < 32) : Sl10 ((((((((((w.setCell ⟨b, k * 10, none⟩ (.int .i64 k)).setCell ⟨b, k * 10 + 1, none⟩ (.int .i64 c.ve)).setCell ⟨b, k * 10 + 2, none⟩ (.int .i64 c.pr)).setCell ⟨b, k * 10 + 3, none⟩ (.int .i64 c.ia)).setCell ⟨b, k * 10 + 4, none⟩ (.int .i64 c.ip)).setCell ⟨b, k * 10 + 5, none⟩ (.int .i64 c.fa)).setCell ⟨b, k * 10 + 6, none⟩ (.int .i64 c.fp)).setCell ⟨b, k * 10 + 7, none⟩ (.int .i64 c.po)).setCell ⟨b, k * 10 + 8, none⟩ (.int .i64 c.st)).setCell ⟨b, k * 10 + 9, none⟩ (.int .i64 c.un)) b (upd T k c) := by
  have h := h.slot (i := k) hk
  have h := h.put (i := k) (k := 1) c.ve hk (by omega) (by omega)
  have h := h.put (i := k) (k := 2) c.pr hk (by omega) (by omega)
  have h := h.put (i := k) (k := 3) c.ia hk (by omega) (by omega)
  have h := h.put (i := k) (k := 4) c.ip hk (by omega) (by omega)
  have h := h.put (i := k) (k := 5) c.fa hk (by omega) (by omega)
  have h := h.put (i := k) (k := 6) c.fp hk (by omega) (by omega)
  have h := h.put (i := k) (k := 7) c.po hk (by omega) (by omega)
  have h := h.put (i := k) (k := 8) c.st hk (by omega) (by omega)
  have h := h.put (i := k) (k := 9) c.un hk (by omega) (by omega)
  simp only [upd_same, upd_upd, put_all2] at h
  exact h
theorem sl_chg10 (w : World) (b k : Nat) (c : Ce) : Chg b w ((((((((((w.setCell ⟨b, k * 10, none⟩ (.int .i64 k)).setCell ⟨b, k * 10 + 1, none⟩ (.int .i64 c.ve)).setCell ⟨b, k * 10 + 2, none⟩ (.int .i64 c.pr)).setCell ⟨b, k * 10 + 3, none⟩ (.int .i64 c.ia)).setCell ⟨b, k * 10 + 4, none⟩ (.int .i64 c.ip)).setCell ⟨b, k * 10 + 5, none⟩ (.int .i64 c.fa)).setCell ⟨b, k * 10 + 6, none⟩ (.int .i64 c.fp)).setCell ⟨b, k * 10 + 7, none⟩ (.int .i64 c.po)).setCell ⟨b, k * 10 + 8, none⟩ (.int .i64 c.st)).setCell ⟨b, k * 10 + 9, none⟩ (.int .i64 c.un)) :=
  (((((((((Chg.set b _ w _).trans (Chg.set b _ _ _)).trans (Chg.set b _ _ _)).trans (Chg.set b _ _ _)).trans (Chg.set b _ _ _)).trans (Chg.set b _ _ _)).trans (Chg.set b _ _ _)).trans (Chg.set b _ _ _)).trans (Chg.set b _ _ _)).trans (Chg.set b _ _ _)
theorem cS {w : World} {a : Addr} {u v : Value} (h : w.cell? a = some u) : (w.setCell a v).cell? a = some v := World.cell?_setCell_same' w a v (by rw [h]; rfl)
theorem cO {w : World} {a b : Addr} {v : Value} (h : a ≠ b) : (w.setCell a v).cell? b = w.cell? b := by
  apply World.cell?_setCell_other
  exact h
/-- what the document's Tell leaves. -/
def RTold (w w' : World) (m g : Nat) (life : Int) (T : Tb) : Prop := (∃ g' cap', RMir w' m g' cap' life T ∧ (g' = g ∨ w.heap.size ≤ g')) ∧ Chg2 m g w w'
set_option maxRecDepth 100000 in
set_option maxHeartbeats 8000000 in
theorem rtell_any (m g cap : Nat) (life old : Int) (T : Tb) (l : List Tc) (p : Option Addr) (cp : Nat) (w : World) (M : RMir w m g cap old T) (R : TcR w p l) (hp : l ≠ [] → ∀ b o, p = some ⟨b, o, none⟩ → b ≠ m ∧ b ≠ g) (hl : l.length ≤ 100000) :
    Calls Tryz.prog 87 #[.pointer (some ⟨m, 0, none⟩), .int .i64 life, .slice p l.length cp] w fun e w' => e = .returned (.int .i64 (tellE old life l : Nat)) ∧ RTold w w' m g (tellLife old life l) (tellT old life T l) := by
  have HM : Hid (RMir w m g cap old T) := M
  have HR : Hid (TcR w p l) := R
  have HP : Hid (l ≠ [] → ∀ b o, p = some ⟨b, o, none⟩ → b ≠ m ∧ b ≠ g) := hp
  clear M R hp
  have HBAD : Hid ((life < 1 ∨ 8 < l.length ∨ (l.any fun x => !okS x) = true) → tellE old life l = 2 ∧ RTold w w m g (tellLife old life l) (tellT old life T l)) := fun h => by
    have hE : tellE old life l = 2 := by unfold tellE; rw [if_pos h]
    refine ⟨hE, ?_⟩
    unfold tellLife tellT
    rw [hE]
    exact ⟨⟨g, cap, HM.out, .inl rfl⟩, Chg2.refl _ _ _⟩
  have HOLD : Hid (¬ (life < 1 ∨ 8 < l.length ∨ (l.any fun x => !okS x) = true) → life < old → tellE old life l = 10 ∧ RTold w w m g (tellLife old life l) (tellT old life T l)) := fun h h4 => by
    have hE : tellE old life l = 10 := by unfold tellE; rw [if_neg h, if_pos h4]
    refine ⟨hE, ?_⟩
    unfold tellLife tellT
    rw [hE]
    exact ⟨⟨g, cap, HM.out, .inl rfl⟩, Chg2.refl _ _ _⟩
  have HOK : Hid (¬ (life < 1 ∨ 8 < l.length ∨ (l.any fun x => !okS x) = true) → ¬ life < old → tellE old life l = 0 ∧ tellLife old life l = life ∧ tellT old life T l = takeL (if old < life then newT else T) l) := fun h h4 => by
    have hE : tellE old life l = 0 := by unfold tellE; rw [if_neg h, if_neg h4]
    unfold tellLife tellT
    rw [hE]
    exact ⟨rfl, rfl, rfl⟩
  obtain ⟨E, hE⟩ : ∃ E, E = tellE old life l := ⟨_, rfl⟩
  obtain ⟨LF, hLF⟩ : ∃ E, E = tellLife old life l := ⟨_, rfl⟩
  obtain ⟨TT, hTT⟩ : ∃ E, E = tellT old life T l := ⟨_, rfl⟩
  rw [← hE, ← hLF, ← hTT] at HBAD HOLD HOK ⊢
  clear hE hLF hTT
  go_enter Tryz.func87, Tryz.ntmps87
  by_cases h1 : life < 1
  · obtain ⟨hE, hT⟩ := HBAD.out (.inl h1)
    have HE : Hid (E = 2) := hE
    have HT : Hid (RTold w w m g LF TT) := hT
    clear hE hT
    go_wp2_with fail
    go_ret
    exact ⟨by rw [HE.out]; rfl, HT.out⟩
  by_cases h2 : 8 < l.length
  · have h2' : (8 : Int) < (l.length : Int) := by omega
    obtain ⟨hE, hT⟩ := HBAD.out (.inr (.inl h2))
    have HE : Hid (E = 2) := hE
    have HT : Hid (RTold w w m g LF TT) := hT
    clear hE hT
    go_wp2_with fail
    go_ret
    exact ⟨by rw [HE.out]; rfl, HT.out⟩
  have h2' : ¬ (8 : Int) < (l.length : Int) := by omega
  have H1 : Hid (¬ life < 1) := h1
  have H2 : Hid (¬ 8 < l.length) := h2
  go_wp2_with fail
  go_loopw [7] (fun t wr => ∃ j : Nat, j ≤ l.length ∧ t = .int .i64 j ∧ ((l.take j).any fun x => !okS x) = false ∧ wr = w) (fun t _ => l.length - (intOf t).toNat)
  case atStart => exact ⟨0, Nat.zero_le _, rfl, rfl, rfl⟩
  case round =>
    obtain ⟨j, hj, rfl, hno, rfl⟩ := hrel
    have HN : Hid (((l.take j).any fun x => !okS x) = false) := hno
    clear hno
    by_cases hlt : j < l.length
    · have hr : l[j]? = some l[j] := List.getElem?_eq_getElem hlt
      obtain ⟨y, hy⟩ : ∃ y, y = l[j] := ⟨_, rfl⟩
      rw [← hy] at hr
      have HY : Hid (l[j]? = some y) := hr
      clear hy
      obtain ⟨b, o, rfl, hc⟩ := HR.out j y hr
      have c0 := hc.c0
      have j0 : (0 : Int) ≤ (j : Int) := by omega
      have j1 : (j : Int) < (l.length : Int) := by omega
      clear hr hc
      by_cases hbad : y.sl < 0 ∨ 32 ≤ y.sl
      · have HT0 : Hid ((l.any fun x => !okS x) = true) := by
          show _ = _
          rw [List.any_eq_true]
          refine ⟨y, List.mem_of_getElem? HY.out, ?_⟩
          cases hd : okS y
          · rfl
          · have := okS_iff.1 hd; omega
        obtain ⟨hE, hT⟩ := HBAD.out (.inr (.inr HT0.out))
        have HE : Hid (E = 2) := hE
        have HT : Hid (RTold wr wr m g LF TT) := hT
        clear hE hT HT0
        by_cases hneg : y.sl < 0
        · clear hbad
          go_wp2_with fail
          go_ret
          exact ⟨by rw [HE.out]; rfl, HT.out⟩
        · have hge : 32 ≤ y.sl := by omega
          clear hbad
          go_wp2_with fail
          go_ret
          exact ⟨by rw [HE.out]; rfl, HT.out⟩
      · have n1 : ¬ y.sl < 0 := by omega
        have n2 : ¬ 32 ≤ y.sl := by omega
        have HT : Hid (((l.take (j + 1)).any fun x => !okS x) = false) := by
          show _ = _
          have hd : okS y = true := okS_iff.2 ⟨by omega, by omega⟩
          rw [List.take_add_one, HY.out, List.any_append, HN.out]
          simp only [Option.toList_some, List.any_cons, List.any_nil, hd, Bool.or_false, Bool.not_true]
        clear hbad
        go_wp2_with fail
        go_roundw
        case rel => exact ⟨j + 1, by omega, by go_num, HT.out, by first | rfl | trivial⟩
        case measure => simp [intOf]; omega
    · obtain rfl : j = l.length := by omega
      rw [List.take_length] at HN
      have hdi : ¬ ((l.length : Int) < (l.length : Int)) := by omega
      have HG : Hid (¬ (life < 1 ∨ 8 < l.length ∨ (l.any fun x => !okS x) = true)) := by
        show ¬ _
        rintro (h | h | h)
        · have := H1.out; omega
        · have := H2.out; omega
        · rw [HN.out] at h; cases h
      have m0 := HM.out.c0
      by_cases h4 : life < old
      · obtain ⟨hE, hT⟩ := HOLD.out HG.out h4
        have HE : Hid (E = 10) := hE
        have HT : Hid (RTold wr wr m g LF TT) := hT
        clear hE hT
        go_wp2_with fail
        go_ret
        exact ⟨by rw [HE.out]; rfl, HT.out⟩
      · obtain ⟨hE, hL, hT⟩ := HOK.out HG.out (by omega)
        obtain ⟨U, hU⟩ : ∃ U, U = if old < life then newT else T := ⟨_, rfl⟩
        rw [← hU] at hT
        have HE : Hid (E = 0) := hE
        have HLF : Hid (LF = life) := hL
        have HTT : Hid (TT = takeL U l) := hT
        have HU : Hid (U = if old < life then newT else T) := hU
        clear hE hL hT hU HOK HOLD HBAD
        go_upto_if 47 with fail
        go_cut [48, 49, 50, 51, 52, 53, 54, 55] (fun _ _ _ _ _ _ _ _ wx => ∃ g1 cap1, RMir wx m g1 cap1 life U ∧ (g1 = g ∨ wr.heap.size ≤ g1) ∧ Chg2 m g wr wx)
        case first =>
          by_cases h5 : old < life
          · have HNW : Hid (U = newT) := by show _ = _; rw [HU.out, if_pos h5]
            have f0 := HM.out.f0
            go_wp2_with fail
            have C1 : Hid (Chg m wr (wr.setCell ⟨m, 0, none⟩ (.int .i64 life))) := Chg.set m 0 _ _
            have D0 : Hid ((wr.setCell ⟨m, 0, none⟩ (.int .i64 life)).cell? ⟨m, 0, none⟩ = some (.int .i64 life)) := cS m0
            have D1 : Hid ((wr.setCell ⟨m, 0, none⟩ (.int .i64 life)).cell? ⟨m, 1, none⟩ = some (.slice (some ⟨g, 0, none⟩) 32 cap)) := by
              show _ = _
              rw [cO (by simp)]; exact HM.out.c1
            have F0 : Hid ((wr.setCell ⟨m, 0, none⟩ (.int .i64 life)).frozen? ⟨m, 0, none⟩ = false) := by show _ = _; rw [World.frozen?_setCell]; exact HM.out.f0
            have F1 : Hid ((wr.setCell ⟨m, 0, none⟩ (.int .i64 life)).frozen? ⟨m, 1, none⟩ = false) := by show _ = _; rw [World.frozen?_setCell]; exact HM.out.f1
            generalize wr.setCell ⟨m, 0, none⟩ (.int .i64 life) = w1 at *
            refine (empty_any _).mono ?_
            rintro e w2 ⟨⟨ge, ce, rfl, hge, hs⟩, hb2⟩
            have S2 : Hid (Sl10 w2 ge newT) := hs
            have GE : Hid (w1.heap.size ≤ ge) := hge
            have B2 : Hid (Below w1.heap.size w1 w2) := hb2
            have HML : Hid (m < w1.heap.size) := tlt D0.out
            have e1 := tk hb2 D1.out
            have E0 : Hid (w2.cell? ⟨m, 0, none⟩ = some (.int .i64 life)) := tk hb2 D0.out
            have e2 : w2.frozen? ⟨m, 1, none⟩ = false := (frozen_of_block (hb2.block m HML.out)).trans F1.out
            have E3 : Hid (w2.frozen? ⟨m, 0, none⟩ = false) := (frozen_of_block (hb2.block m HML.out)).trans F0.out
            have E1 : Hid (w2.cell? ⟨m, 1, none⟩ = some (.slice (some ⟨g, 0, none⟩) 32 cap)) := e1
            have E2 : Hid (w2.frozen? ⟨m, 1, none⟩ = false) := e2
            clear hs hge hb2
            go_wp2_with fail
            go_meet
            case rel =>
              have hne : m ≠ ge := fun e => by have := HML.out; have := GE.out; omega
              refine ⟨ge, ce, ⟨?_, cS E1.out, ?_, ?_, ?_, hne⟩, .inr (Nat.le_trans C1.out.size GE.out), ?_⟩
              · rw [cO (by simp)]; exact E0.out
              · rw [World.frozen?_setCell]; exact E3.out
              · rw [World.frozen?_setCell]; exact E2.out
              · rw [HNW.out]; exact S2.out.chg (Chg.set m 1 _ _) hne.symm
              · exact (((Chg2.refl m g _).on C1.out (.inl rfl)).then B2.out).on (Chg.set m 1 _ _) (.inl rfl)
          · have HNW : Hid (U = T) := by show _ = _; rw [HU.out, if_neg h5]
            have HLE : Hid (old = life) := by show _ = _; omega
            go_wp2_with fail
            go_meet
            case rel =>
              refine ⟨g, cap, ?_, .inl rfl, Chg2.refl _ _ _⟩
              rw [HNW.out, ← HLE.out]
              exact HM.out
        case rest =>
          obtain ⟨g1, cap1, hm1, hg1, hc1⟩ := hcut
          have M2 : Hid (RMir wc m g1 cap1 life U) := hm1
          have G2 : Hid (g1 = g ∨ wr.heap.size ≤ g1) := hg1
          have C2 : Hid (Chg2 m g wr wc) := hc1
          clear hm1 hg1 hc1 m0
          obtain ⟨w0, rfl⟩ : ∃ w0, w0 = wr := ⟨_, rfl⟩
          go_wp2_with fail
          go_loopw [8] (fun t wi => ∃ j : Nat, j ≤ l.length ∧ t = .int .i64 j ∧ RMir wi m g1 cap1 life (takeL U (l.take j)) ∧ Chg2 m g w0 wi) (fun t _ => l.length - (intOf t).toNat)
          case atStart => exact ⟨0, Nat.zero_le _, rfl, M2.out, C2.out⟩
          case round =>
            obtain ⟨j, hj, rfl, hm3, hc3⟩ := hrel
            have M3 : Hid (RMir wr m g1 cap1 life (takeL U (l.take j))) := hm3
            have C3 : Hid (Chg2 m g w0 wr) := hc3
            clear hm3 hc3
            by_cases hlt : j < l.length
            · have hr : l[j]? = some l[j] := List.getElem?_eq_getElem hlt
              obtain ⟨y, hy⟩ : ∃ y, y = l[j] := ⟨_, rfl⟩
              rw [← hy] at hr
              have hok : okS y = true := by
                have h := List.any_eq_false.1 HN.out y (List.mem_of_getElem? hr)
                cases hd : okS y
                · rw [hd] at h; simp at h
                · rfl
              have hsl := okS_iff.1 hok
              obtain ⟨b, o, hpe, hc⟩ := HR.out j y hr
              subst hpe
              have hne : l ≠ [] := fun e => by rw [e] at hlt; simp at hlt
              have hc := hc.chg2 C3.out (HP.out hne b o rfl).1 (HP.out hne b o rfl).2
              clear hne
              have HY : Hid (takeL U (l.take (j + 1)) = takeT (takeL U (l.take j)) y) := takeL_take U l j y hr
              clear hy hr hok
              obtain ⟨sl, c⟩ := y
              simp only at hsl
              obtain ⟨k, rfl⟩ : ∃ k : Nat, sl = k := ⟨sl.toNat, by omega⟩
              have hk : k < 32 := by omega
              have k0 : (0 : Int) ≤ (k : Int) := by omega
              have k1 : (k : Int) < 32 := by omega
              have j0 : (0 : Int) ≤ (j : Int) := by omega
              have j1 : (j : Int) < (l.length : Int) := by omega
              clear hsl
              obtain ⟨TJ, hTJ⟩ : ∃ TJ, TJ = takeL U (l.take j) := ⟨_, rfl⟩
              rw [← hTJ] at HY M3
              clear hTJ
              have HC : Hid (TcAt wr b (o + j * 10) ⟨k, c⟩) := hc
              clear hc
              obtain ⟨x, hx⟩ : ∃ x, x = (TJ k).ve := ⟨_, rfl⟩
              have HX : Hid (x = (TJ k).ve) := hx
              have m1 : wr.cell? ⟨g1, k * 10 + 1, none⟩ = some (.int .i64 x) := by rw [hx]; exact M3.out.sl.at' hk (by omega)
              have m2 := M3.out.c1
              have c0 : wr.cell? ⟨b, o + j * 10, none⟩ = some (.int .i64 k) := HC.out.c0
              have c1 : wr.cell? ⟨b, o + j * 10 + 1, none⟩ = some (.int .i64 c.ve) := HC.out.c1
              clear hx
              by_cases hv : x < c.ve
              · have HT : Hid (takeL U (l.take (j + 1)) = upd TJ k c) := by
                  show _ = _
                  rw [HY.out]
                  unfold takeT
                  simp only [Int.toNat_natCast]
                  rw [if_pos (by rw [← HX.out]; exact hv)]
                go_wp2_with fail
                go_quiet (fail)
                have M4 : Hid (RMir (wr.drewN nq) m g1 cap1 life TJ) := M3.out.below ⟨rfl, rfl, rfl, Nat.le_refl _, fun _ _ => rfl⟩
                have C4 : Hid (Chg2 m g w0 (wr.drewN nq)) := C3.out.then ⟨rfl, rfl, rfl, Nat.le_refl _, fun _ _ => rfl⟩
                have HC4 : Hid (TcAt (wr.drewN nq) b (o + j * 10) ⟨k, c⟩) := HC.out.below ⟨rfl, rfl, rfl, Nat.le_refl _, fun _ _ => rfl⟩
                generalize wr.drewN nq = w4 at *
                clear m1 m2 c0 c1 M3 C3 HC
                have m2 := M4.out.c1
                have c0 : w4.cell? ⟨b, o + j * 10, none⟩ = some (.int .i64 k) := HC4.out.c0
                obtain ⟨_, c1, c2, c3, c4, c5, c6, c7, c8, c9⟩ := HC4.out
                have g0 := M4.out.sl.at' (k := 0) hk (by omega)
                have q1 := M4.out.sl.at' (k := 1) hk (by omega)
                have q2 := M4.out.sl.at' (k := 2) hk (by omega)
                have q3 := M4.out.sl.at' (k := 3) hk (by omega)
                have q4 := M4.out.sl.at' (k := 4) hk (by omega)
                have q5 := M4.out.sl.at' (k := 5) hk (by omega)
                have q6 := M4.out.sl.at' (k := 6) hk (by omega)
                have q7 := M4.out.sl.at' (k := 7) hk (by omega)
                have q8 := M4.out.sl.at' (k := 8) hk (by omega)
                have q9 := M4.out.sl.at' (k := 9) hk (by omega)
                simp only [Nat.add_zero] at g0
                simp only at c1 c2 c3 c4 c5 c6 c7 c8 c9
                have fz := M4.out.sl.fr
                go_wp2_with fail
                go_region
                have M5 : Hid (RMir ((((((((((w4.setCell ⟨g1, k * 10, none⟩ (.int .i64 k)).setCell ⟨g1, k * 10 + 1, none⟩ (.int .i64 c.ve)).setCell ⟨g1, k * 10 + 2, none⟩ (.int .i64 c.pr)).setCell ⟨g1, k * 10 + 3, none⟩ (.int .i64 c.ia)).setCell ⟨g1, k * 10 + 4, none⟩ (.int .i64 c.ip)).setCell ⟨g1, k * 10 + 5, none⟩ (.int .i64 c.fa)).setCell ⟨g1, k * 10 + 6, none⟩ (.int .i64 c.fp)).setCell ⟨g1, k * 10 + 7, none⟩ (.int .i64 c.po)).setCell ⟨g1, k * 10 + 8, none⟩ (.int .i64 c.st)).setCell ⟨g1, k * 10 + 9, none⟩ (.int .i64 c.un)).drew m g1 cap1 life (takeL U (l.take (j + 1)))) := by
                  show RMir _ _ _ _ _ _
                  rw [HT.out]
                  exact (M4.out.on (sl_chg10 w4 g1 k c) (slm_put10 M4.out.sl k c hk)).below (Below.refl _ _).drew
                have C5 : Hid (Chg2 m g w0 ((((((((((w4.setCell ⟨g1, k * 10, none⟩ (.int .i64 k)).setCell ⟨g1, k * 10 + 1, none⟩ (.int .i64 c.ve)).setCell ⟨g1, k * 10 + 2, none⟩ (.int .i64 c.pr)).setCell ⟨g1, k * 10 + 3, none⟩ (.int .i64 c.ia)).setCell ⟨g1, k * 10 + 4, none⟩ (.int .i64 c.ip)).setCell ⟨g1, k * 10 + 5, none⟩ (.int .i64 c.fa)).setCell ⟨g1, k * 10 + 6, none⟩ (.int .i64 c.fp)).setCell ⟨g1, k * 10 + 7, none⟩ (.int .i64 c.po)).setCell ⟨g1, k * 10 + 8, none⟩ (.int .i64 c.st)).setCell ⟨g1, k * 10 + 9, none⟩ (.int .i64 c.un)).drew) := (C4.out.on (sl_chg10 w4 g1 k c) (.inr G2.out)).then (Below.refl _ _).drew
                generalize ((((((((((w4.setCell ⟨g1, k * 10, none⟩ (.int .i64 k)).setCell ⟨g1, k * 10 + 1, none⟩ (.int .i64 c.ve)).setCell ⟨g1, k * 10 + 2, none⟩ (.int .i64 c.pr)).setCell ⟨g1, k * 10 + 3, none⟩ (.int .i64 c.ia)).setCell ⟨g1, k * 10 + 4, none⟩ (.int .i64 c.ip)).setCell ⟨g1, k * 10 + 5, none⟩ (.int .i64 c.fa)).setCell ⟨g1, k * 10 + 6, none⟩ (.int .i64 c.fp)).setCell ⟨g1, k * 10 + 7, none⟩ (.int .i64 c.po)).setCell ⟨g1, k * 10 + 8, none⟩ (.int .i64 c.st)).setCell ⟨g1, k * 10 + 9, none⟩ (.int .i64 c.un)).drew = w5 at *
                clear c0 c1 c2 c3 c4 c5 c6 c7 c8 c9 g0 q1 q2 q3 q4 q5 q6 q7 q8 q9 fz m2
                go_wp2_with fail
                go_roundw
                case rel => exact ⟨j + 1, by omega, by go_num, M5.out, C5.out⟩
                case measure => simp [intOf]; omega
              · have HT : Hid (takeL U (l.take (j + 1)) = TJ) := by
                  show _ = _
                  rw [HY.out]
                  unfold takeT
                  simp only [Int.toNat_natCast]
                  rw [if_neg (by rw [← HX.out]; exact hv)]
                go_wp2_with fail
                go_quiet (fail)
                have M4 : Hid (RMir (wr.drewN nq) m g1 cap1 life (takeL U (l.take (j + 1)))) := by
                  show RMir _ _ _ _ _ _
                  rw [HT.out]
                  exact M3.out.below ⟨rfl, rfl, rfl, Nat.le_refl _, fun _ _ => rfl⟩
                have C4 : Hid (Chg2 m g w0 (wr.drewN nq)) := C3.out.then ⟨rfl, rfl, rfl, Nat.le_refl _, fun _ _ => rfl⟩
                generalize wr.drewN nq = w4 at *
                go_wp2_with fail
                go_roundw
                case rel => exact ⟨j + 1, by omega, by go_num, M4.out, C4.out⟩
                case measure => simp [intOf]; omega
            · obtain rfl : j = l.length := by omega
              have hdi' : ¬ ((l.length : Int) < (l.length : Int)) := by omega
              go_wp2_with fail
              go_ret
              refine ⟨by rw [HE.out]; rfl, ⟨g1, cap1, ?_, G2.out⟩, C3.out⟩
              have h := M3.out
              rw [List.take_length] at h
              rw [HLF.out, HTT.out]
              exact h
end Go.Proofs.YtifjoboaolpejaaGreatDoor

namespace Go.Proofs.YtifjoboaolpejaaGreatDoor
open Go.RowKit

set_option maxRecDepth 100000 in
set_option maxHeartbeats 4000000 in
theorem rflows_any (g cap : Nat) (T : Tb) (w : World) (M : Sl10 w g T) :
    Calls Tryz.prog 93 #[.slice (some ⟨g, 0, none⟩) 32 cap] w fun e w' => (∃ v, e = .returned v ∧ w'.ownsRow w.heap.size 136 8 v (flL T 32).length (flCs (flL T 32))) ∧ Below w.heap.size w w' := by
  obtain ⟨i0, hi, hz0, hz1, hz2⟩ := info_parts Tryz.infoFlow
  have HM : Hid (Sl10 w g T) := M
  clear M
  go_enter Tryz.func93, Tryz.ntmps93
  go_wp2_with fail
  go_loopw [3, 4] (fun v t wr => ∃ j : Nat, j ≤ 32 ∧ t = .int .i64 j ∧ wr.ownsRow w.heap.size 136 8 v (flL T j).length (flCs (flL T j)) ∧ Below w.heap.size w wr) (fun _ t _ => 32 - (intOf t).toNat)
  case atStart => exact ⟨0, by omega, rfl, World.ownsRow_nil _ _ _ _, Below.refl _ _⟩
  case round =>
    obtain ⟨j, hj, rfl, hown, hbr⟩ := hrel
    have HO : Hid (wr.ownsRow w.heap.size 136 8 u3 (flL T j).length (flCs (flL T j))) := hown
    have HB : Hid (Below w.heap.size w wr) := hbr
    clear hown hbr
    by_cases hlt : j < 32
    · obtain ⟨c, hc⟩ : ∃ c, c = T j := ⟨_, rfl⟩
      have HC : Hid (c = T j) := hc
      have A2 := HM.out.below HB.out
      have b2 := A2.at' (i := j) (k := 2) hlt (by omega)
      have b3 := A2.at' (i := j) (k := 3) hlt (by omega)
      have b4 := A2.at' (i := j) (k := 4) hlt (by omega)
      have b5 := A2.at' (i := j) (k := 5) hlt (by omega)
      have b6 := A2.at' (i := j) (k := 6) hlt (by omega)
      have b7 := A2.at' (i := j) (k := 7) hlt (by omega)
      have b8 := A2.at' (i := j) (k := 8) hlt (by omega)
      have b9 := A2.at' (i := j) (k := 9) hlt (by omega)
      rw [← hc] at b2 b3 b4 b5 b6 b7 b8 b9
      simp only [Ce.get] at b2 b3 b4 b5 b6 b7 b8 b9
      have i0' : (0 : Int) ≤ (j : Int) := by omega
      have i1 : (j : Int) < 32 := by omega
      clear hc A2
      have hle := flL_len T j
      by_cases hp : c.pr = 0
      · have HN : Hid (flL T (j + 1) = flL T j) := flL_no (by rw [← HC.out]; exact hp)
        go_wp2_with fail
        go_roundw
        case rel => exact ⟨j + 1, by omega, by go_num, by rw [HN.out]; exact HO.out, HB.out⟩
        case measure => simp [intOf]; omega
      · have HN : Hid (flL T (j + 1) = flL T j ++ [c]) := by show _ = _; rw [flL_yes (by rw [← HC.out]; exact hp), HC.out]
        have N1 : Hid (∀ u ∈ flC c, u.oneCell' = true) := fun u hu => by
          simp only [flC, List.mem_cons, List.not_mem_nil, or_false] at hu
          rcases hu with rfl | rfl | rfl | rfl | rfl | rfl | rfl | rfl <;> rfl
        go_wp2_with (at_builtin; refine wpList_append_own _ rfl _ _ 182 rfl w.heap.size 136 i0 _ 8 64 Tryz.underlying182 hi hz0 hz1 hz2 rfl (by decide) u3 (flL T j).length (flCs (flL T j)) rfl (HO.out.alloc _) ⟨wr.heap.size, 0, none⟩ 1 1 (flC c) rfl rfl ?c1 N1.out ?c3 ?c4 ?c5 ?_)
        case c1 =>
          intro q u hu
          rw [tadd, Nat.zero_add, nw]
          simpa [flC] using hu
        case c3 => unfold maxLen; omega
        case c4 => omega
        case c5 => have := HB.out.size; simp; omega
        intro v5 w5 hO5 hg5 _
        have O5 : Hid (w5.ownsRow w.heap.size 136 8 v5 (flL T (j + 1)).length (flCs (flL T (j + 1)))) := by
          show w5.ownsRow _ _ _ _ _ _
          rw [HN.out, List.length_append, flCs_add]
          exact hO5
        have B5 : Hid (Below w.heap.size w w5) := (HB.out.alloc HB.out.size _).grown hg5 (by have := HB.out.size; simp; omega) (fun q hq => (HO.out.lt _ hq).1)
        clear hO5 hg5 N1
        go_wp2_with fail
        go_roundw
        case rel => exact ⟨j + 1, by omega, by go_num, O5.out, B5.out⟩
        case measure => simp [intOf]; omega
    · obtain rfl : j = 32 := by omega
      go_wp2_with fail
      go_ret
      exact ⟨⟨_, rfl, HO.out⟩, HB.out⟩
end Go.Proofs.YtifjoboaolpejaaGreatDoor
