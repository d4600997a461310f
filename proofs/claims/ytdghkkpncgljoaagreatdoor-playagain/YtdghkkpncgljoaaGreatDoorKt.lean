/-
  Texts in one: PyK IntO PyL PyN PaR.
-/
import Derived.Test.YtdghkkpncgljoaaGreatDoorPyE
import Derived.Test.YtdghkkpncgljoaaGreatDoorKs
import Derived.Test.YtdghkkpncgljoaaGreatDoorKa
import Derived.ProofKit
import Derived.OpenShut
import Derived.Deep.Slices
import Derived.ChangeMaps5
import Derived.Maps.AppendAt
import Derived.Laws.OwnMore
import Derived.Test.YtdghkkpncgljoaaGreatDoorKh
namespace Go.Proofs.YtdghkkpncgljoaaGreatDoor
open Go.RowKit

/-- two worlds, and blocks that are of neither. -/
def TW (w0 w : World) (wa wb : Nat) (X Y : Wo) (t u : Nat) (Zs : List (Nat × Obj)) : Prop :=
  ∃ K L : WK, Wd w0 w K X t ∧ Wd w0 w L Y u ∧ Apt K L ∧ K.wb = wa ∧ L.wb = wb ∧ (∀ j, j < 2 → ∃ b, K.yk j = some b) ∧ (∀ j, j < 2 → ∃ b, L.yk j = some b) ∧ ∀ z ∈ Zs, K.tag z.1 = 9 ∧ L.tag z.1 = 9 ∧ w.heap[z.1]? = some z.2
theorem TW.symm {w0 w : World} {wa wb : Nat} {X Y : Wo} {t u : Nat} {Zs : List (Nat × Obj)} (h : TW w0 w wa wb X Y t u Zs) : TW w0 w wb wa Y X u t Zs := by
  obtain ⟨K, L, a, b, c, d, e, f, g, z⟩ := h
  exact ⟨L, K, b, a, c.symm, e, d, g, f, fun x hx => ⟨(z x hx).2.1, (z x hx).1, (z x hx).2.2⟩⟩
theorem heap_lt {w : World} {Z : Nat} {o : Obj} (h : w.heap[Z]? = some o) : Z < w.heap.size := by
  rcases Nat.lt_or_ge Z w.heap.size with a | a
  · exact a
  · rw [Array.getElem?_eq_none a] at h; cases h
theorem TW.below {w0 w w' : World} {wa wb : Nat} {X Y : Wo} {t u : Nat} {Zs : List (Nat × Obj)} (h : TW w0 w wa wb X Y t u Zs) (hb : Below w.heap.size w w') : TW w0 w' wa wb X Y t u Zs := by
  obtain ⟨K, L, a, b, c, d, e, f, g, z⟩ := h
  exact ⟨K, L, a.below hb, b.below hb, c, d, e, f, g, fun x hx => ⟨(z x hx).1, (z x hx).2.1, by rw [hb.block _ (heap_lt (z x hx).2.2)]; exact (z x hx).2.2⟩⟩
theorem TW.add {w0 w w' : World} {wa wb : Nat} {X Y : Wo} {t u : Nat} {Zs : List (Nat × Obj)} (h : TW w0 w wa wb X Y t u Zs) (hb : Below w.heap.size w w') {Z : Nat} {o : Obj} (hz : w.heap.size ≤ Z) (ho : w'.heap[Z]? = some o) : TW w0 w' wa wb X Y t u ((Z, o) :: Zs) := by
  obtain ⟨K, L, a, b, c, d, e, f, g, z⟩ := h
  refine ⟨K, L, a.below hb, b.below hb, c, d, e, f, g, fun x hx => ?_⟩
  rcases List.mem_cons.1 hx with rfl | hx
  · exact ⟨a.al _ hz, b.al _ hz, ho⟩
  · exact ⟨(z x hx).1, (z x hx).2.1, by rw [hb.block _ (heap_lt (z x hx).2.2)]; exact (z x hx).2.2⟩
theorem TW.bl {w0 w : World} {wa wb : Nat} {X Y : Wo} {t u : Nat} {Zs : List (Nat × Obj)} (h : TW w0 w wa wb X Y t u Zs) : Below w0.heap.size w0 w := by
  obtain ⟨_, _, a, _⟩ := h
  exact a.bl
theorem TW.at' {w0 w : World} {wa wb : Nat} {X Y : Wo} {t u : Nat} {Zs : List (Nat × Obj)} (h : TW w0 w wa wb X Y t u Zs) {Z : Nat} {o : Obj} (hz : (Z, o) ∈ Zs) : w.heap[Z]? = some o := by
  obtain ⟨_, _, _, _, _, _, _, _, _, z⟩ := h
  exact (z _ hz).2.2
/-- a script that stands below, or in a block of the law's own. -/
def RdO (w0 w : World) (Zs : List (Nat × Obj)) (p : Option Addr) (xs : List Int) : Prop := ∀ (j : Nat) x, xs[j]? = some x → ∃ b o, p = some ⟨b, o, none⟩ ∧ w.cell? ⟨b, o + j, none⟩ = some (.int .i64 x) ∧ x ≤ 9223372036854775807 ∧ (b < w0.heap.size ∨ ∃ ob, (b, ob) ∈ Zs)
/-- one of them plays a script. -/
theorem TW.run {w0 w : World} {wa wb : Nat} {X Y : Wo} {t u i : Nat} {Zs : List (Nat × Obj)} {s : Nat → Addr} (h : TW w0 w wa wb X Y t u Zs) (S : Sents w0 s) (F : PyF w0) (hI : In i X) (xs : List Int) (hn : xs.length ≤ 3000) (hi : i + 10 * xs.length ≤ 90000) (ht : t + 10 * xs.length ≤ 2600) (p : Option Addr) (cap : Nat) (hcap : xs.length ≤ cap) (hr : RdO w0 w Zs p xs) :
    Calls Tryz.prog 8 #[.pointer (some ⟨wa, 0, none⟩), .slice p xs.length cap] w fun e w' => ∃ Z, e = .returned (.slice (some ⟨Z, 0, none⟩) xs.length xs.length) ∧ w.heap.size ≤ Z ∧ In (i + 10 * xs.length) (runW X xs) ∧ TW w0 w' wa wb (runW X xs) Y (t + 10 * xs.length) u ((Z, .cells (ansA (runA X xs) xs.length) 3 (0, 0)) :: Zs) := by
  obtain ⟨K, L, a, b, c, rfl, rfl, f, g, z⟩ := h
  refine (run_wd S F a hI xs hn hi ht f p cap hcap (fun j x hx => ?_)).mono ?_
  · obtain ⟨q, o, e, hc, hm, hq⟩ := hr j x hx
    refine ⟨q, o, e, hc, hm, ?_⟩
    rcases hq with hq | ⟨ob, hq⟩
    · exact .inl hq
    · exact .inr (z _ hq).1
  · rintro e w' ⟨Z, rfl, hz, ha, hI', K', wd', mv, h9⟩
    obtain ⟨b', c'⟩ := b.beside wd' mv c
    refine ⟨Z, rfl, hz, hI', K', L, wd', b', c', mv.wb, rfl, fun j hj => by rw [mv.yk]; exact f j hj, g, fun x hx => ?_⟩
    rcases List.mem_cons.1 hx with rfl | hx
    · exact ⟨h9, b.al _ hz, ha⟩
    · obtain ⟨z1, z2, z3⟩ := z x hx
      have hl := heap_lt z3
      exact ⟨by rw [mv.tag _ hl]; exact z1, z2, by rw [mv.block _ hl (.inl z1)]; exact z3⟩
/-- the notes that fly in one of them, as the document has them. -/
theorem TW.flying {w0 w : World} {wa wb : Nat} {X Y : Wo} {t u : Nat} {Zs : List (Nat × Obj)} (h : TW w0 w wa wb X Y t u Zs) :
    Calls Tryz.prog 12 #[.pointer (some ⟨wa, 0, none⟩)] w fun e w' => (∃ p cap us, e = .returned (.slice p X.fl.length cap) ∧ RdT w' p X.fl us ∧ RdC w' X.fl us ∧ us.length = X.fl.length ∧ (∀ r ∈ nfR X.fl us, Five r)) ∧ X.fl.length ≤ 200 ∧ Below w.heap.size w w' := by
  obtain ⟨K, L, a, b, c, rfl, rfl, f, g, z⟩ := h
  refine (flying_wd a).mono ?_
  rintro e w' ⟨⟨v, us, rfl, nt⟩, hb⟩
  have hu : ∀ (j : Nat) x, X.fl[j]? = some x → ∃ q cc, us[j]? = some (.slice q x.cs.length cc) ∧ TcR w' q x.cs ∧ x.cs.length ≤ 8 := fun j x hx => by
    have hj : j < us.length := by
      rw [nt.len]
      rcases Nat.lt_or_ge j X.fl.length with q | q
      · exact q
      · rw [List.getElem?_eq_none q] at hx; cases hx
    obtain ⟨_, _, q, cc, e, R, _, h8⟩ := nt.ok j x us[j] hx (List.getElem?_eq_getElem hj)
    exact ⟨q, cc, by rw [List.getElem?_eq_getElem hj, e], R, h8⟩
  obtain ⟨p, cap, rfl, R⟩ := own_nts nt.own nt.five (fun j x hx => by obtain ⟨q, cc, e, _⟩ := hu j x hx; exact ⟨q, cc, e⟩)
  exact ⟨⟨p, cap, us, rfl, R, hu, nt.len, nt.five⟩, a.fl.le, hb⟩
/-- and its claims. -/
theorem TW.events {w0 w : World} {wa wb : Nat} {X Y : Wo} {t u : Nat} {Zs : List (Nat × Obj)} (h : TW w0 w wa wb X Y t u Zs) :
    Calls Tryz.prog 15 #[.pointer (some ⟨wa, 0, none⟩)] w fun e w' => (∃ p cap, e = .returned (.slice p X.ev.length cap) ∧ RdE w' p X.ev) ∧ X.ev.length ≤ 1000 ∧ Below w.heap.size w w' := by
  obtain ⟨K, L, a, b, c, rfl, rfl, f, g, z⟩ := h
  refine (events_wd a).mono ?_
  rintro e w' ⟨⟨v, rfl, ow⟩, hb⟩
  obtain ⟨p, cap, rfl, R⟩ := own_evs ow
  refine ⟨⟨p, cap, rfl, fun j x hx => ?_⟩, a.ev.le, hb⟩
  obtain ⟨g, e, _, c0, c1⟩ := R j x hx
  exact ⟨g, e, c0, c1⟩
/-- a script in two parts. -/
theorem runW_app (W : Wo) (xs ys : List Int) : runW W (xs ++ ys) = runW (runW W xs) ys := by
  induction xs generalizing W with
  | nil => rfl
  | cons x xs ih => exact ih _
theorem runA_app (W : Wo) (xs ys : List Int) : runA W (xs ++ ys) = runA W xs ++ runA (runW W xs) ys := by
  induction xs generalizing W with
  | nil => rfl
  | cons x xs ih => exact congrArg (_ :: ·) (ih _)
/-- answers can be read. -/
theorem ans_rd {w : World} {Z : Nat} {L : List Int} {n : Nat} (h : w.heap[Z]? = some (.cells (ansA L n) 3 (0, 0))) : RdN w (some ⟨Z, 0, none⟩) L := fun j x hx => by
  refine ⟨Z, 0, rfl, ?_⟩
  rw [cell_of_row w Z _ _ _ _ h, Nat.zero_add]
  have hj : j < L.length := by
    rcases Nat.lt_or_ge j L.length with q | q
    · exact q
    · rw [List.getElem?_eq_none q] at hx; cases hx
  unfold ansA
  rw [List.getElem?_toArray, List.getElem?_append_left (by rw [List.length_map]; exact hj), List.getElem?_map, hx]
  rfl
end Go.Proofs.YtdghkkpncgljoaaGreatDoor

namespace Go.Proofs.YtdghkkpncgljoaaGreatDoor
open Go.ChangeShapes Go.WideShapes Go.ChangeAt Go.RowKit

/-- a slice of numbers that came in. -/
def IntsI (w : World) (v : Value) (xs : List Int) : Prop := ∃ (p : Option Addr) (cap : Nat), v = .slice p xs.length cap ∧ ∀ (i : Nat) x, xs[i]? = some x → ∃ b o, p = some ⟨b, o, none⟩ ∧ w.cell? ⟨b, o + i, none⟩ = some (.int .i64 x) ∧ -9223372036854775808 ≤ x ∧ x ≤ 9223372036854775807
theorem Tryz.ciI : Tryz.prog.cellsOf 3 = 1 := by kernel_rfl
theorem addr_addI (b o j : Nat) : Addr.add ⟨b, o, none⟩ j = ⟨b, o + j, none⟩ := by
  unfold Addr.add
  by_cases h : j = 0
  · subst h; rfl
  · rw [if_neg h]
set_option maxRecDepth 100000 in
theorem open_intsI {H : Type} {enc : TypeId × Value → H} {W : World} {b0 : Nat} {v : Value} {d : DataW H} {p : List MemPlace} {sp : Nat → Bool}
    (hv : Value.okWide Tryz.prog W .any b0 23 v) (h : DataW.Trod enc Tryz.prog W 0 sp true 23 v d p) : ∃ l, IntsI W v l := by
  obtain ⟨a0, len0, cap0, rfl⟩ := okWide_slice Tryz.underlying23 hv
  obtain ⟨fuel, hf⟩ := h
  rcases Go.Deep.open_slice Tryz.underlying23 hf with ⟨h0, _⟩ | ⟨a, len, cap, m, n, D, Pl, hcs, _, hlc, hmx, hm, _, hx⟩
  · have h0 : [Value.slice a0 len0 cap0] = [.slice none 0 0] := h0
    have h0 : Value.slice a0 len0 cap0 = .slice none 0 0 := by simpa using h0
    exact ⟨[], none, 0, h0, fun j x hx => by simp at hx⟩
  · have hcs : [Value.slice a0 len0 cap0] = [.slice (some a) len cap] := hcs
    have hcs : Value.slice a0 len0 cap0 = .slice (some a) len cap := by simpa using hcs
    rw [hcs]
    have hlm : len ≤ m := by rw [hm]; split <;> omega
    obtain ⟨R, hR⟩ := Go.Deep.choose_lt (α := Int) (n := len) (p := fun i x => W.cell? (a.add i) = some (.int .i64 x) ∧ -9223372036854775808 ≤ x ∧ x ≤ 9223372036854775807) (fun i hi => by
      obtain ⟨cs', h1, h2⟩ := hx i (by omega)
      rw [Tryz.ciI] at h1
      obtain ⟨y, e, _, k⟩ := DataW.trod_int Tryz.underlying3 h2
      subst e
      refine ⟨y, ?_, ?_⟩
      · unfold World.cells? at h1
        rw [if_pos (Nat.zero_le _)] at h1
        simp at h1
        obtain ⟨z, hz, e⟩ := Option.bind_eq_some_iff.1 h1
        simp at e
        subst e
        exact hz
      · simp only [Lit.wf, Bool.and_eq_true, decide_eq_true_eq] at k
        have e1 : IntKind.i64.min = -9223372036854775808 := by decide
        have e2 : IntKind.i64.max = 9223372036854775807 := by decide
        omega)
    refine ⟨(List.range len).map R, some a, cap, by simp, fun i r hr => ?_⟩
    rw [List.getElem?_map] at hr
    obtain ⟨i', hi', rfl⟩ := Option.map_eq_some_iff.1 hr
    obtain ⟨hlt, e⟩ := List.getElem?_eq_some_iff.1 hi'
    simp at hlt e
    subst e
    have hsp : a.spot = none := by
      have h0 := (hR 0 (by omega)).1
      have e : a.add 0 = a := rfl
      rw [e] at h0
      unfold World.cell? at h0
      split at h0
      · cases hs : a.spot with
        | none => rfl
        | some q => simp [hs] at h0
      · cases h0
    obtain ⟨b, o, sp'⟩ := a
    obtain rfl : sp' = none := hsp
    have := hR i hlt
    rw [addr_addI] at this
    exact ⟨b, o, rfl, this⟩
end Go.Proofs.YtdghkkpncgljoaaGreatDoor

namespace Go.Proofs.YtdghkkpncgljoaaGreatDoor
open Go.ChangeShapes Go.WideShapes Go.ChangeAt Go.RowKit

/-- a slice of numbers that came in, with its room. -/
def IntsC (w : World) (v : Value) (xs : List Int) : Prop := ∃ (p : Option Addr) (cap : Nat), v = .slice p xs.length cap ∧ xs.length ≤ cap ∧ (p = none → cap = 0) ∧ ∀ (i : Nat) x, xs[i]? = some x → ∃ b o, p = some ⟨b, o, none⟩ ∧ w.cell? ⟨b, o + i, none⟩ = some (.int .i64 x) ∧ -9223372036854775808 ≤ x ∧ x ≤ 9223372036854775807
set_option maxRecDepth 100000 in
theorem open_intsC {H : Type} {enc : TypeId × Value → H} {W : World} {b0 : Nat} {v : Value} {d : DataW H} {p : List MemPlace} {sp : Nat → Bool}
    (hv : Value.okWide Tryz.prog W .any b0 23 v) (h : DataW.Trod enc Tryz.prog W 0 sp true 23 v d p) : ∃ l, IntsC W v l := by
  obtain ⟨a0, len0, cap0, rfl⟩ := okWide_slice Tryz.underlying23 hv
  obtain ⟨fuel, hf⟩ := h
  rcases Go.Deep.open_slice Tryz.underlying23 hf with ⟨h0, _⟩ | ⟨a, len, cap, m, n, D, Pl, hcs, _, hlc, hmx, hm, _, hx⟩
  · have h0 : [Value.slice a0 len0 cap0] = [.slice none 0 0] := h0
    have h0 : Value.slice a0 len0 cap0 = .slice none 0 0 := by simpa using h0
    exact ⟨[], none, 0, h0, Nat.le_refl _, fun _ => rfl, fun j x hx => by simp at hx⟩
  · have hcs : [Value.slice a0 len0 cap0] = [.slice (some a) len cap] := hcs
    have hcs : Value.slice a0 len0 cap0 = .slice (some a) len cap := by simpa using hcs
    rw [hcs]
    have hlm : len ≤ m := by rw [hm]; split <;> omega
    obtain ⟨R, hR⟩ := Go.Deep.choose_lt (α := Int) (n := len) (p := fun i x => W.cell? (a.add i) = some (.int .i64 x) ∧ -9223372036854775808 ≤ x ∧ x ≤ 9223372036854775807) (fun i hi => by
      obtain ⟨cs', h1, h2⟩ := hx i (by omega)
      rw [Tryz.ciI] at h1
      obtain ⟨y, e, _, k⟩ := DataW.trod_int Tryz.underlying3 h2
      subst e
      refine ⟨y, ?_, ?_⟩
      · unfold World.cells? at h1
        rw [if_pos (Nat.zero_le _)] at h1
        simp at h1
        obtain ⟨z, hz, e⟩ := Option.bind_eq_some_iff.1 h1
        simp at e
        subst e
        exact hz
      · simp only [Lit.wf, Bool.and_eq_true, decide_eq_true_eq] at k
        have e1 : IntKind.i64.min = -9223372036854775808 := by decide
        have e2 : IntKind.i64.max = 9223372036854775807 := by decide
        omega)
    refine ⟨(List.range len).map R, some a, cap, by simp, by simpa using hlc, fun e => (by cases e), fun i r hr => ?_⟩
    rw [List.getElem?_map] at hr
    obtain ⟨i', hi', rfl⟩ := Option.map_eq_some_iff.1 hr
    obtain ⟨hlt, e⟩ := List.getElem?_eq_some_iff.1 hi'
    simp at hlt e
    subst e
    have hsp : a.spot = none := by
      have h0 := (hR 0 (by omega)).1
      have e : a.add 0 = a := rfl
      rw [e] at h0
      unfold World.cell? at h0
      split at h0
      · cases hs : a.spot with
        | none => rfl
        | some q => simp [hs] at h0
      · cases h0
    obtain ⟨b, o, sp'⟩ := a
    obtain rfl : sp' = none := hsp
    have := hR i hlt
    rw [addr_addI] at this
    exact ⟨b, o, rfl, this⟩

def intVp (x : Int) : Value := .int .i64 x
theorem app_ints (w : World) (base : Nat) (ty : TypeId) (v : Value) (n : Nat) (ys : List Int) (hown : w.ownsRow base 3 1 v n (ys.map intVp)) (p : Option Addr) (cap : Nat) (xs : List Int) (R : RdN w p xs) (hp : p = none → cap = 0) (hn : n + xs.length ≤ 3000) (hbase : base ≤ w.heap.size) :
    ∃ v' w', (Builtin.append_ #[23, 23] ty #[v, .slice p xs.length cap]).run Tryz.prog w = .ok v' w' ∧ w'.ownsRow base 3 1 v' (n + xs.length) ((ys ++ xs).map intVp) ∧ w.grownBy w' v.ownBlock ∧ (v'.ownBlock = v.ownBlock ∨ v'.ownBlock = some w.heap.size) := by
  obtain ⟨i0, hi, hz0, hz1, hz2⟩ := info_parts Tryz.infoPy
  cases p with
  | none =>
    obtain rfl := hp rfl
    have hx : xs = [] := by
      cases xs with
      | nil => rfl
      | cons x xs => obtain ⟨_, _, e, _⟩ := R 0 x rfl; cases e
    subst hx
    refine ⟨v, w, run_append_owned_none (P := Tryz.prog) w base 23 ty 3 i0 1 Tryz.underlying23 hi v n _ hown, by simpa using hown, ⟨rfl, rfl, rfl, Nat.le_refl _, fun _ _ _ => rfl⟩, .inl rfl⟩
  | some a =>
    obtain ⟨v', w', h1, h2, h3, _, h5⟩ := run_append_own_at (P := Tryz.prog) w base 23 ty 3 i0 (.int .i64 0) 1 8 Tryz.underlying23 hi hz0 hz1 hz2 rfl (by decide) v n (ys.map intVp) hown a xs.length cap (xs.map intVp) (by simp) (fun j u hu => by
      rw [List.getElem?_map] at hu
      obtain ⟨x, hx, rfl⟩ := Option.map_eq_some_iff.1 hu
      obtain ⟨b, o, e, hc⟩ := R j x hx
      cases e
      rw [addr_addI]
      exact hc) (fun u hu => by obtain ⟨x, _, rfl⟩ := List.mem_map.1 hu; rfl) (by unfold maxLen; omega) (by omega) hbase
    exact ⟨v', w', h1, by rw [List.map_append]; exact h2, h3, h5⟩
/-- a row of one's own can be read. -/
theorem own_rd {w : World} {base n : Nat} {v : Value} {xs : List Int} (h : w.ownsRow base 3 1 v n (xs.map intVp)) : ∃ p cap, v = .slice p xs.length cap ∧ xs.length ≤ cap ∧ (p = none → cap = 0) ∧ RdN w p xs ∧ (∀ a, p = some a → base ≤ a.block) := by
  have hlen : xs.length = n := by have := h.1; simpa using this
  subst hlen
  rcases h.2 with ⟨h1, h2⟩ | ⟨g, cap, cur, h1, h2, h3, h4, h5, h6, h7⟩
  · refine ⟨none, 0, by rw [h1, h2], by omega, fun _ => rfl, fun j x hx => ?_, fun _ e => by cases e⟩
    rw [List.length_eq_zero_iff.1 h2] at hx
    simp at hx
  · refine ⟨some ⟨g, 0, none⟩, cap, h1, h4, fun e => (by cases e), fun j x hx => ⟨g, 0, rfl, ?_⟩, fun a e => by cases e; exact h2⟩
    have h8 : (xs.map intVp)[j]? = some (.int .i64 x) := by rw [List.getElem?_map, hx]; rfl
    rw [← h7, List.getElem?_take] at h8
    split at h8
    · have h9 : cur[j]? = some (.int .i64 x) := by simpa using h8
      rw [Nat.zero_add]
      simp [World.cell?, h3, h9]
    · cases h8
theorem ans_own {w : World} {base Z : Nat} {L : List Int} (h : w.heap[Z]? = some (.cells (ansA L L.length) 3 (0, 0))) (hz : base ≤ Z) (hl : L.length ≤ 3000) : w.ownsRow base 3 1 (.slice (some ⟨Z, 0, none⟩) L.length L.length) L.length (L.map intVp) := by
  have e : ansA L L.length = (L.map intVp).toArray := by
    unfold ansA
    rw [Nat.sub_self]
    simp [intVp]
  rw [e] at h
  refine ⟨by simp, .inr ⟨Z, L.length, _, rfl, hz, h, Nat.le_refl _, by unfold maxLen; omega, by simp, ?_⟩⟩
  rw [List.take_of_length_le (by simp)]
end Go.Proofs.YtdghkkpncgljoaaGreatDoor

namespace Go.Proofs.YtdghkkpncgljoaaGreatDoor
open Go.RowKit

/-- a copy of a script, in a block of the law's own. -/
theorem TW.script {w0 w : World} {wa wb : Nat} {X Y : Wo} {t u : Nat} {Zs : List (Nat × Obj)} (h : TW w0 w wa wb X Y t u Zs) (ty : TypeId) (p : Option Addr) (cap : Nat) (xs : List Int) (R : RdN w p xs) (hp : p = none → cap = 0) (hm : ∀ x ∈ xs, x ≤ 9223372036854775807) (hn : xs.length ≤ 3000) :
    ∃ p' cap' w' Zs', (Builtin.append_ #[23, 23] ty #[.slice none 0 0, .slice p xs.length cap]).run Tryz.prog w = .ok (.slice p' xs.length cap') w' ∧ xs.length ≤ cap' ∧ TW w0 w' wa wb X Y t u Zs' ∧ RdO w0 w' Zs' p' xs ∧ (∀ z ∈ Zs, z ∈ Zs') ∧ w.heap.size ≤ w'.heap.size := by
  obtain ⟨v', w', hr, ho, hg, _⟩ := app_ints w w.heap.size ty (.slice none 0 0) 0 [] (World.ownsRow_nil _ _ _ _) p cap xs R hp (by omega) (Nat.le_refl _)
  rw [List.nil_append] at ho
  have hb : Below w.heap.size w w' := (Below.refl _ _).grown hg (Nat.le_refl _) (fun k e => by cases e)
  obtain ⟨p', cap', rfl, hc, _, hrd, hbs⟩ := own_rd ho
  cases p' with
  | none =>
    refine ⟨none, cap', w', Zs, hr, hc, h.below hb, fun j x hx => ?_, fun z hz => hz, hb.size⟩
    obtain ⟨b, o, e, _⟩ := hrd j x hx
    cases e
  | some a =>
    have hab := hbs a rfl
    rcases Nat.eq_zero_or_pos xs.length with h0 | h0
    · refine ⟨some a, cap', w', Zs, hr, hc, h.below hb, fun j x hx => ?_, fun z hz => hz, hb.size⟩
      rw [List.length_eq_zero_iff.1 h0] at hx
      simp at hx
    · obtain ⟨x0, hx0⟩ : ∃ x0, xs[0]? = some x0 := ⟨xs[0], List.getElem?_eq_getElem h0⟩
      obtain ⟨b0, o0, e0, hc0⟩ := hrd 0 x0 hx0
      have hlt : b0 < w'.heap.size := tlt hc0
      cases e0
      refine ⟨some ⟨b0, o0, none⟩, cap', w', (b0, w'.heap[b0]) :: Zs, hr, hc, h.add hb hab (Array.getElem?_eq_getElem hlt), fun j x hx => ?_, fun z hz => List.mem_cons_of_mem _ hz, hb.size⟩
      obtain ⟨b, o, e, hcc⟩ := hrd j x hx
      cases e
      exact ⟨b0, o0, rfl, hcc, hm x (List.mem_of_getElem? hx), .inr ⟨_, List.mem_cons_self ..⟩⟩
/-- answers behind answers. -/
theorem TW.join {w0 w : World} {wa wb : Nat} {X Y : Wo} {t u : Nat} {Zs : List (Nat × Obj)} (h : TW w0 w wa wb X Y t u Zs) (ty : TypeId) {Z1 Z2 Z3 : Nat} {o1 : Obj} {A2 A3 : List Int} (m1 : (Z1, o1) ∈ Zs) (m2 : (Z2, .cells (ansA A2 A2.length) 3 (0, 0)) ∈ Zs) (m3 : (Z3, .cells (ansA A3 A3.length) 3 (0, 0)) ∈ Zs) (n12 : Z1 ≠ Z2) (hz2 : w0.heap.size ≤ Z2) (hl : A2.length + A3.length ≤ 3000) :
    ∃ p' cap' w', (Builtin.append_ #[23, 23] ty #[.slice (some ⟨Z2, 0, none⟩) A2.length A2.length, .slice (some ⟨Z3, 0, none⟩) A3.length A3.length]).run Tryz.prog w = .ok (.slice p' (A2 ++ A3).length cap') w' ∧ RdN w' p' (A2 ++ A3) ∧ TW w0 w' wa wb X Y t u [(Z1, o1)] := by
  obtain ⟨v', w', hr, ho, hg, _⟩ := app_ints w w0.heap.size ty (.slice (some ⟨Z2, 0, none⟩) A2.length A2.length) A2.length A2 (ans_own (h.at' m2) hz2 (by omega)) (some ⟨Z3, 0, none⟩) A3.length A3 (ans_rd (h.at' m3)) (fun e => by cases e) hl h.bl.size
  obtain ⟨p', cap', rfl, hc, _, hrd, hbs⟩ := own_rd ho
  have c : ChgL [Z2] w w' := grown_chgL hg
  refine ⟨p', cap', w', hr, hrd, ?_⟩
  obtain ⟨K, L, a, b, cc, d, e, f, g, z⟩ := h
  have k2 := z _ m2
  have k1 := z _ m1
  refine ⟨K, L, a.keptL (l := [Z2]) (fun q hq => ?_) (fun q hq => ?_) c, b.keptL (l := [Z2]) (fun q hq => ?_) (fun q hq => ?_) c, cc, d, e, f, g, fun x hx => ?_⟩
  · rw [List.mem_singleton.1 hq]; exact k2.1
  · rw [List.mem_singleton.1 hq]; exact hz2
  · rw [List.mem_singleton.1 hq]; exact k2.2.1
  · rw [List.mem_singleton.1 hq]; exact hz2
  · rw [List.mem_singleton.1 hx]
    refine ⟨k1.1, k1.2.1, ?_⟩
    rw [c.block _ (heap_lt k1.2.2) (by simpa using n12)]
    exact k1.2.2
theorem own_evs2 {w : World} {ty : TypeId} {B : Nat} {v : Value} {L : List (Int × Int)} (h : w.ownsRow B ty 2 v L.length (evC L)) : ∃ (p : Option Addr) (cap : Nat), v = .slice p L.length cap ∧ ∀ (j : Nat) x, L[j]? = some x → ∃ g, p = some ⟨g, 0, none⟩ ∧ B ≤ g ∧ w.cell? ⟨g, j * 2, none⟩ = some (.int .i64 x.1) ∧ w.cell? ⟨g, j * 2 + 1, none⟩ = some (.int .i64 x.2) := by
  rcases h.2 with ⟨h1, h2⟩ | ⟨g, cap, cur, h1, h2, h3, h4, h5, h6, h7⟩
  · refine ⟨none, 0, by rw [h1, h2], fun j x hx => ?_⟩
    rw [List.length_eq_zero_iff.1 h2] at hx
    simp at hx
  · refine ⟨some ⟨g, 0, none⟩, cap, h1, fun j x hx => ⟨g, rfl, h2, ?_⟩⟩
    have key : ∀ k u, (evC L)[k]? = some u → w.cell? ⟨g, k, none⟩ = some u := fun k u h8 => by
      rw [← h7, List.getElem?_take] at h8
      split at h8
      · have h9 : cur[k]? = some u := by simpa using h8
        simp [World.cell?, h3, h9]
      · cases h8
    exact ⟨key _ _ (evC_get L j x hx).1, key _ _ (evC_get L j x hx).2⟩
/-- one of two worlds plays a script: what it answers. -/
theorem TW.run2 {w0 w : World} {wa wb : Nat} {X Y : Wo} {t u i : Nat} {Zs : List (Nat × Obj)} {s : Nat → Addr} (h : TW w0 w wa wb X Y t u Zs) (S : Sents w0 s) (F : PyF w0) (hI : In i X) (xs : List Int) (hn : xs.length ≤ 3000) (hi : i + 10 * xs.length ≤ 90000) (ht : t + 10 * xs.length ≤ 2600) (p : Option Addr) (k cap : Nat) (hk : k = xs.length) (hcap : xs.length ≤ cap) (hr : RdO w0 w Zs p xs) :
    Calls Tryz.prog 8 #[.pointer (some ⟨wa, 0, none⟩), .slice p k cap] w fun e w' => ∃ Z, e = .returned (.slice (some ⟨Z, 0, none⟩) (runA X xs).length (runA X xs).length) ∧ w.heap.size ≤ Z ∧ In (i + 10 * xs.length) (runW X xs) ∧ TW w0 w' wa wb (runW X xs) Y (t + 10 * xs.length) u ((Z, .cells (ansA (runA X xs) (runA X xs).length) 3 (0, 0)) :: Zs) := by
  subst hk
  rw [runA_len]
  exact h.run S F hI xs hn hi ht p cap hcap hr
end Go.Proofs.YtdghkkpncgljoaaGreatDoor

namespace Go.Proofs.YtdghkkpncgljoaaGreatDoor
open Go.RowKit

def faultOf (l : List Rl) : Int × Int := if 20 < l.length then (2, -1) else match chkAt l 0 with | some i => (2, (i : Int)) | none => (0, -1)
theorem bare_any (c : Int) (w : World) : Calls Tryz.prog 19 #[.int .i64 c] w fun e w' => e = .returned (.agg #[.int .i64 c, .int .i64 (-1)]) ∧ Below w.heap.size w w' := by
  go_enter Tryz.func19, Tryz.ntmps19
  go_wp2_with fail
  exact bodyPost_ret (v := .agg #[.int .i64 c, .int .i64 (-1)]) (by simp [results, Tryz.results19, go_sem]) rfl ⟨rfl, (Below.refl _ _).alloc (Nat.le_refl _) _⟩
theorem fine_any (w : World) : Calls Tryz.prog 20 #[] w fun e w' => e = .returned (.agg #[.int .i64 0, .int .i64 (-1)]) ∧ Below w.heap.size w w' := by
  go_enter Tryz.func20, Tryz.ntmps20
  go_wp2_with fail
  exact bodyPost_ret (v := .agg #[.int .i64 0, .int .i64 (-1)]) (by simp [results, Tryz.results20, go_sem]) rfl ⟨rfl, (Below.refl _ _).alloc (Nat.le_refl _) _⟩
/-- the result's place: two numbers. -/
structure Rs (w wr : World) : Prop where
  c0 : wr.cell? ⟨w.heap.size, 0, none⟩ = some (.int .i64 0)
  c1 : wr.cell? ⟨w.heap.size, 1, none⟩ = some (.int .i64 0)
  f0 : wr.frozen? ⟨w.heap.size, 0, none⟩ = false
  f1 : wr.frozen? ⟨w.heap.size, 1, none⟩ = false
  b : Below w.heap.size w wr
theorem fr_keeps {w w' : World} (h : Below w.heap.size w w') {a : Addr} {v : Value} (hc : w.cell? a = some v) (hf : w.frozen? a = false) : w'.frozen? a = false := by
  rw [h.frozen (p := a) (cell_lt hc)]; exact hf
theorem Rs.below {w w1 w2 : World} (h : Rs w w1) (hb : Below w1.heap.size w1 w2) : Rs w w2 := ⟨Below.keeps hb h.c0, Below.keeps hb h.c1, fr_keeps hb h.c0 h.f0, fr_keeps hb h.c1 h.f1, below2 h.b hb⟩
theorem Rs.new (w : World) : Rs w (w.alloc (.cells #[.int .i64 0, .int .i64 0] 26)) :=
  ⟨by simp, by simp, by rw [World.frozen?_alloc_at _ _ _ _ rfl], by rw [World.frozen?_alloc_at _ _ _ _ rfl], (Below.refl _ _).alloc (Nat.le_refl _) _⟩
set_option maxRecDepth 100000 in
set_option maxHeartbeats 2000000 in
theorem rfault_big (p : Option Addr) (l : List Rl) (cap : Nat) (w : World) (R : Rul w p l) (hl : l.length ≤ 4000) :
    Calls Tryz.prog 5 #[.slice p l.length cap] w fun e w' => e = .returned (.agg #[.int .i64 (faultOf l).1, .int .i64 (faultOf l).2]) ∧ Below w.heap.size w w' := by
  have HR : Hid (Rul w p l) := R
  clear R
  by_cases hbig : 20 < l.length
  · have HF : Hid (faultOf l = (2, -1)) := by show _ = _; unfold faultOf; rw [if_pos hbig]
    go_enter Tryz.func5, Tryz.ntmps5
    go_wp2_with fail
    have R0 : Hid (Rs w (w.alloc (.cells #[.int .i64 0, .int .i64 0] 26))) := Rs.new w
    refine (bare_any 2 _).mono ?_
    rintro e w1 ⟨rfl, hb1⟩
    have R1 : Hid (Rs w w1) := R0.out.below hb1
    have c0 := R1.out.c0
    have c1 := R1.out.c1
    have f0 := R1.out.f0
    have f1 := R1.out.f1
    clear hb1
    go_wp2_with fail
    exact bodyPost_ret (v := .agg #[.int .i64 2, .int .i64 (-1)]) (by simp [results, Tryz.results5, go_sem, c0, c1]) rfl ⟨by rw [HF.out], by
      repeat (first | exact R1.out.b | refine Below.setCell ?_ (by exact Nat.le_refl _) _)⟩
  · have HF : Hid (faultOf l = match chkAt l 0 with | some i => (2, (i : Int)) | none => (0, -1)) := by show _ = _; unfold faultOf; rw [if_neg hbig]
    go_enter Tryz.func5, Tryz.ntmps5
    go_wp2_with fail
    have R0 : Hid (Rs w (w.alloc (.cells #[.int .i64 0, .int .i64 0] 26))) := Rs.new w
    go_loopw [3] (fun t wr => ∃ j : Nat, j ≤ l.length ∧ t = .int .i64 j ∧ chkAt (l.drop j) j = chkAt l 0 ∧ Rs w wr) (fun t _ => l.length - (intOf t).toNat)
    case atStart => exact ⟨0, Nat.zero_le _, rfl, rfl, R0.out⟩
    case round =>
      obtain ⟨j, hj, rfl, had, hrs⟩ := hrel
      have HA : Hid (chkAt (l.drop j) j = chkAt l 0) := had
      have RR : Hid (Rs w wr) := hrs
      clear had hrs
      by_cases hlt : j < l.length
      · have hr : l[j]? = some l[j] := List.getElem?_eq_getElem hlt
        generalize l[j] = r at hr
        obtain ⟨x, o, rfl, g0, g1, g2, g3, g4⟩ := HR.out j r hr
        have k0 := Below.keeps RR.out.b g0
        have k1 := Below.keeps RR.out.b g1
        have k2 := Below.keeps RR.out.b g2
        have k3 := Below.keeps RR.out.b g3
        have k4 := Below.keeps RR.out.b g4
        have HD : Hid (chkAt l 0 = if r.ok then chkAt (l.drop (j + 1)) (j + 1) else some j) := by show _ = _; rw [← HA.out]; exact chkAt_drop hr
        clear g0 g1 g2 g3 g4 hr
        obtain ⟨al, ro, rp, lo, tp⟩ := r
        simp only at k0 k1 k2 k3 k4
        have R1 : Hid (Rs w (wr.alloc (.cells #[.bool al, .bool ro, .int .i64 rp, .int .i64 lo, .int .i64 tp] 52))) := RR.out.below ((Below.refl _ _).alloc (Nat.le_refl _) _)
        have c0 := R1.out.c0
        have c1 := R1.out.c1
        have f0 := R1.out.f0
        have f1 := R1.out.f1
        go_wp2_with fail
        all_goals first
          | (refine ⟨⟨j + 1, by omega, by go_num, ?_, R1.out⟩, by simp [intOf]; omega⟩
             rw [HD.out, if_pos (show Rl.ok ⟨al, ro, rp, lo, tp⟩ by unfold Rl.ok; simp only; omega)])
          | (have hno : ¬ Rl.ok ⟨al, ro, rp, lo, tp⟩ := by unfold Rl.ok; simp only; omega
             have HC : Hid (chkAt l 0 = some j) := by show _ = _; rw [HD.out, if_neg hno]
             clear hno
             exact bodyPost_ret (v := .agg #[.int .i64 2, .int .i64 j]) (by simp [results, Tryz.results5, go_sem, c0, c1]) rfl ⟨by rw [HF.out, HC.out], by
               repeat (first | exact R1.out.b | refine Below.setCell ?_ (by exact Nat.le_refl _) _)⟩)
      · obtain rfl : j = l.length := by omega
        have hf : Hid (chkAt l 0 = none) := by show _ = _; rw [← HA.out, List.drop_length]; rfl
        go_wp2_with fail
        refine (fine_any _).mono ?_
        rintro e w1 ⟨rfl, hb1⟩
        have R1 : Hid (Rs w w1) := RR.out.below hb1
        have c0 := R1.out.c0
        have c1 := R1.out.c1
        have f0 := R1.out.f0
        have f1 := R1.out.f1
        clear hb1
        go_wp2_with fail
        exact bodyPost_ret (v := .agg #[.int .i64 0, .int .i64 (-1)]) (by simp [results, Tryz.results5, go_sem, c0, c1]) rfl ⟨by rw [HF.out, hf.out], by
          repeat (first | exact R1.out.b | refine Below.setCell ?_ (by exact Nat.le_refl _) _)⟩
theorem rfault_any (p : Option Addr) (l : List Rl) (cap : Nat) (w : World) (R : Rul w p l) (hl : l.length ≤ 1000) :
    Calls Tryz.prog 5 #[.slice p l.length cap] w fun e w' => e = .returned (.agg #[.int .i64 (faultOf l).1, .int .i64 (faultOf l).2]) ∧ Below w.heap.size w w' :=
  rfault_big p l cap w R (by omega)
end Go.Proofs.YtdghkkpncgljoaaGreatDoor
