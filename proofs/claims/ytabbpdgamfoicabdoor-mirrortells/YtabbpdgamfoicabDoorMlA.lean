/-
  The law's OwnCells; flows in a slice, held against each other.
-/
import Derived.Test.YtabbpdgamfoicabDoorMiE
import Derived.Test.YtabbpdgamfoicabDoorMiF
import Derived.Laws.AppendOwnNone
namespace Go.Proofs.YtabbpdgamfoicabDoor
open Go.RowKit

/-- a slice of told cells. -/
def TcS (w : World) (v : Value) (l : List Tc) : Prop := (v = .slice none 0 0 ∧ l = []) ∨ ∃ a cap, v = .slice (some a) l.length cap ∧ TcR w (some a) l
theorem TcS.open {w : World} {v : Value} {l : List Tc} (h : TcS w v l) : ∃ p cap, v = .slice p l.length cap ∧ TcR w p l := by
  rcases h with ⟨rfl, rfl⟩ | ⟨a, cap, h1, h2⟩
  · exact ⟨none, 0, rfl, fun i r h => by simp at h⟩
  · exact ⟨_, _, h1, h2⟩
theorem TcS.below {w w' : World} {v : Value} {l : List Tc} (h : TcS w v l) (hb : Below w.heap.size w w') : TcS w' v l := by
  rcases h with h | ⟨a, cap, h1, h2⟩
  · exact .inl h
  · exact .inr ⟨a, cap, h1, h2.below hb⟩
/-- a slice of told cells in memory of its own, from block N on. -/
def TcN (w : World) (N : Nat) (v : Value) (l : List Tc) : Prop := ∃ p cap, v = .slice p l.length cap ∧ TcR w p l ∧ ∀ g o, p = some ⟨g, o, none⟩ → N ≤ g
def tcCs (l : List Tc) : List Value := l.flatMap tcC
theorem tcCs_cons (x : Tc) (l : List Tc) : tcCs (x :: l) = tcC x ++ tcCs l := rfl
theorem tcCs_len : ∀ l : List Tc, (tcCs l).length = l.length * 10
  | [] => rfl
  | x :: l => by
    rw [tcCs_cons, List.length_append, tcCs_len l]
    show 10 + _ = _
    simp only [List.length_cons]
    omega
theorem tcCs_at : ∀ (l : List Tc) (i k : Nat) (x : Tc) (u : Value), l[i]? = some x → (tcC x)[k]? = some u → (tcCs l)[i * 10 + k]? = some u
  | [], i, k, x, u, h, _ => by simp at h
  | a :: r, 0, k, x, u, h, hk => by
    simp at h
    subst h
    have : k < (tcC a).length := (List.getElem?_eq_some_iff.1 hk).1
    rw [tcCs_cons, List.getElem?_append_left (by omega), Nat.zero_mul, Nat.zero_add]
    exact hk
  | a :: r, i + 1, k, x, u, h, hk => by
    have hl : (tcC a).length = 10 := rfl
    rw [tcCs_cons, List.getElem?_append_right (by omega), hl, show (i + 1) * 10 + k - 10 = i * 10 + k from by omega]
    exact tcCs_at r i k x u (by simpa using h) hk
theorem tcCs_one (l : List Tc) (u : Value) (h : u ∈ tcCs l) : u.oneCell' = true := by
  obtain ⟨r, _, hr⟩ := List.mem_flatMap.1 h
  simp only [tcC, List.mem_cons, List.not_mem_nil, or_false] at hr
  rcases hr with rfl | rfl | rfl | rfl | rfl | rfl | rfl | rfl | rfl | rfl <;> rfl
theorem TcAt.get {w : World} {b o : Nat} {x : Tc} (h : TcAt w b o x) : ∀ k u, (tcC x)[k]? = some u → w.cell? ⟨b, o + k, none⟩ = some u
  | 0, _, e => by cases e; exact h.c0
  | 1, _, e => by cases e; exact h.c1
  | 2, _, e => by cases e; exact h.c2
  | 3, _, e => by cases e; exact h.c3
  | 4, _, e => by cases e; exact h.c4
  | 5, _, e => by cases e; exact h.c5
  | 6, _, e => by cases e; exact h.c6
  | 7, _, e => by cases e; exact h.c7
  | 8, _, e => by cases e; exact h.c8
  | 9, _, e => by cases e; exact h.c9
  | k + 10, _, e => by simp [tcC] at e
theorem TcR.get {w : World} {a : Addr} {l : List Tc} (R : TcR w (some a) l) (j : Nat) (u : Value) (h : (tcCs l)[j]? = some u) : w.cell? (a.add j) = some u := by
  have hj : j < l.length * 10 := by
    have := (List.getElem?_eq_some_iff.1 h).1
    rwa [tcCs_len] at this
  have hr : l[j / 10]? = some l[j / 10] := List.getElem?_eq_getElem (by omega)
  generalize l[j / 10] = x at hr
  obtain ⟨b, o, e1, hx⟩ := R _ _ hr
  obtain rfl := Option.some.inj e1
  have hk : j % 10 < (tcC x).length := by show j % 10 < 10; omega
  have hu : (tcC x)[j % 10]? = some (tcC x)[j % 10] := List.getElem?_eq_getElem hk
  have h2 := tcCs_at l _ _ x _ hr hu
  rw [show j / 10 * 10 + j % 10 = j from by omega, h] at h2
  have h3 := hx.get _ _ hu
  rw [tadd, show o + j = o + j / 10 * 10 + j % 10 from by omega, h3, Option.some.inj h2]
theorem TcN.of_own {w : World} {base : Nat} {v : Value} {n : Nat} {l : List Tc} (h : w.ownsRow base 58 10 v n (tcCs l)) : TcN w base v l := by
  obtain ⟨hlen, h⟩ := h
  rw [tcCs_len] at hlen
  have hn : n = l.length := by omega
  subst hn
  rcases h with ⟨rfl, h2⟩ | ⟨g, cap, cur, h1, h2, h3, h4, h5, h6, h7⟩
  · exact ⟨none, 0, by rw [h2], fun i r hr => by
      have := (List.getElem?_eq_some_iff.1 hr).1; omega, fun g o e => by cases e⟩
  · refine ⟨_, cap, h1, fun i r hr => ⟨g, 0, rfl, tcAt_of fun k u hk hu => ?_⟩, fun g' o e => by injection e with e; injection e with e; omega⟩
    have h8 := tcCs_at l i k r u hr hu
    rw [← h7, List.getElem?_take] at h8
    split at h8
    · have h9 : cur[i * 10 + k]? = some u := by simpa using h8
      rw [show 0 + i * 10 + k = i * 10 + k from by omega, cell_of_row w g _ _ _ _ h3]
      exact h9
    · cases h8
set_option maxRecDepth 100000 in
set_option maxHeartbeats 2000000 in
theorem ownc_any (v : Value) (l : List Tc) (w : World) (R : TcS w v l) (hl : l.length ≤ 1000) :
    Calls Tryd.prog 35 #[v] w fun e w' => (∃ v', e = .returned v' ∧ TcN w' w.heap.size v' l) ∧ Below w.heap.size w w' := by
  obtain ⟨i0, hi, hz0, hz1, hz2⟩ := info_parts Tryd.infoCell
  rcases R with ⟨rfl, rfl⟩ | ⟨a, cap, rfl, R⟩
  · go_enter Tryd.func35, Tryd.ntmps35
    go_wp2_with (at_builtin; refine wpList_append_own_none rfl _ _ 61 rfl w.heap.size 58 i0 10 Tryd.underlying61 hi _ 0 [] rfl (World.ownsRow_nil _ _ _ _) rfl ?_)
    go_ret
    exact ⟨⟨_, rfl, none, 0, rfl, fun i r h => by simp at h, fun g o e => by cases e⟩, Below.refl _ _⟩
  · have HR : Hid (TcR w (some a) l) := R
    clear R
    go_enter Tryd.func35, Tryd.ntmps35
    go_wp2_with (at_builtin; refine wpList_append_own _ rfl _ _ 61 rfl w.heap.size 58 i0 _ 10 80 Tryd.underlying61 hi hz0 hz1 hz2 rfl (by decide) _ 0 [] rfl (World.ownsRow_nil _ _ _ _) a l.length cap (tcCs l) rfl (tcCs_len l) HR.out.get (tcCs_one l) (by unfold maxLen; omega) (by omega) (Nat.le_refl _) ?_)
    intro v' w1 hown hgrow _
    have HO : Hid (TcN w1 w.heap.size v' l) := TcN.of_own (n := 0 + l.length) (by simpa using hown)
    have HG : Hid (Below w.heap.size w w1) := (Below.refl _ _).grown hgrow (Nat.le_refl _) (fun j hj => by cases hj)
    clear hown hgrow
    go_wp2_with fail
    go_ret
    exact ⟨⟨_, rfl, HO.out⟩, HG.out⟩
/-- flows in a slice. -/
def FlS (w : World) (p : Option Addr) (xs : List Ce) : Prop := ∀ (j : Nat) c, xs[j]? = some c → ∃ g, p = some ⟨g, 0, none⟩ ∧ ∀ k u, (flC c)[k]? = some u → w.cell? ⟨g, j * 8 + k, none⟩ = some u
theorem FlS.below {w w' : World} {p : Option Addr} {xs : List Ce} (h : FlS w p xs) (hb : Below w.heap.size w w') : FlS w' p xs := fun j c hc => by
  obtain ⟨g, e, h2⟩ := h j c hc
  exact ⟨g, e, fun k u hu => tk hb (h2 k u hu)⟩
theorem FlS.of_own {w : World} {base : Nat} {v : Value} {n : Nat} {xs : List Ce} (h : w.ownsRow base 35 8 v n (flCs xs)) : ∃ p cap, v = .slice p xs.length cap ∧ FlS w p xs := by
  obtain ⟨hlen, h⟩ := h
  rw [flCs_len] at hlen
  have hn : n = xs.length := by omega
  subst hn
  rcases h with ⟨rfl, h2⟩ | ⟨g, cap, cur, h1, h2, h3, h4, h5, h6, h7⟩
  · exact ⟨none, 0, by rw [h2], fun j c hc => by
      have := (List.getElem?_eq_some_iff.1 hc).1; omega⟩
  · refine ⟨_, cap, h1, fun j c hc => ⟨g, rfl, fun k u hu => ?_⟩⟩
    have h8 := flCs_at xs j k c u hc hu
    rw [← h7, List.getElem?_take] at h8
    split at h8
    · have h9 : cur[j * 8 + k]? = some u := by simpa using h8
      rw [cell_of_row w g _ _ _ _ h3]
      exact h9
    · cases h8
theorem neq_flow (c : Ce) (w : World) : (binOp .neq 35 (.agg #[.int .i64 c.pr, .int .i64 c.ia, .int .i64 c.ip, .int .i64 c.fa, .int .i64 c.fp, .int .i64 c.po, .int .i64 c.st, .int .i64 c.un]) (.agg #[.int .i64 c.pr, .int .i64 c.ia, .int .i64 c.ip, .int .i64 c.fa, .int .i64 c.fp, .int .i64 c.po, .int .i64 c.st, .int .i64 c.un])).run Tryd.prog w = .ok (.bool false) w := by
  have h := eqFl 9997 c w
  unfold flowV at h
  rw [run_neq_struct, show (10000 : Nat) = 9997 + 1 + 1 + 1 from rfl, h]
  rfl
end Go.Proofs.YtabbpdgamfoicabDoor
