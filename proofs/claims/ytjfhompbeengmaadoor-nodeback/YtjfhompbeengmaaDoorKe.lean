/-
  Texts in one: TeM TeA TeB TeC TeD TeE TeF.
-/
import Derived.Test.YtjfhompbeengmaaDoorKd
import Derived.Test.YtjfhompbeengmaaDoorKa
import Derived.Maps.OwnOps
import Derived.Maps.OwnSet
import Derived.Laws.CopyRow
import Derived.Deep.QuietTactic
import Derived.BigQuiet
namespace Go.Proofs.YtjfhompbeengmaaDoor

/-- versions by slots, as they were told last. -/
abbrev To := Nat → Int
def newsL (T : Tb) (D : To) : List Nat := (List.range 32).filter fun i => (T i).ve != D i
/-- a batch behind so many slots from the cursor on. -/
def wk (B : List Nat) (c : Nat) : Nat → List Nat
  | 0 => B
  | j + 1 => if (c + j) % 32 ∈ wk B c j then wk B c j else wk B c j ++ [(c + j) % 32]
theorem wk_zero (B : List Nat) (c : Nat) : wk B c 0 = B := rfl
theorem wk_in {B : List Nat} {c j : Nat} (h : (c + j) % 32 ∈ wk B c j) : wk B c (j + 1) = wk B c j := by rw [wk, if_pos h]
theorem wk_out {B : List Nat} {c j : Nat} (h : ¬ (c + j) % 32 ∈ wk B c j) : wk B c (j + 1) = wk B c j ++ [(c + j) % 32] := by rw [wk, if_neg h]
theorem wk_len (B : List Nat) (c j : Nat) : (wk B c j).length ≤ (wk B c (j + 1)).length ∧ (wk B c (j + 1)).length ≤ (wk B c j).length + 1 := by
  rw [wk]; split <;> simp
theorem wk_mem (B : List Nat) (c j : Nat) (x : Nat) : x ∈ wk B c j ↔ x ∈ B ∨ ∃ i, i < j ∧ x = (c + i) % 32 := by
  induction j with
  | zero => rw [wk_zero]; exact ⟨.inl, fun h => by rcases h with h | ⟨i, hi, _⟩ <;> first | exact h | omega⟩
  | succ j ih =>
    by_cases h : (c + j) % 32 ∈ wk B c j
    · rw [wk_in h, ih]
      constructor
      · rintro (h1 | ⟨i, hi, e⟩)
        · exact .inl h1
        · exact .inr ⟨i, by omega, e⟩
      · rintro (h1 | ⟨i, hi, e⟩)
        · exact .inl h1
        · by_cases he : i = j
          · subst he; rw [← ih, e]; exact h
          · exact .inr ⟨i, by omega, e⟩
    · rw [wk_out h, List.mem_append, ih, List.mem_singleton]
      constructor
      · rintro ((h1 | ⟨i, hi, e⟩) | e)
        · exact .inl h1
        · exact .inr ⟨i, by omega, e⟩
        · exact .inr ⟨j, by omega, e⟩
      · rintro (h1 | ⟨i, hi, e⟩)
        · exact .inl (.inl h1)
        · by_cases he : i = j
          · subst he; exact .inr e
          · exact .inl (.inr ⟨i, by omega, e⟩)
theorem wk_nodup {B : List Nat} (c j : Nat) (h : B.Nodup) : (wk B c j).Nodup := by
  induction j with
  | zero => exact h
  | succ j ih =>
    by_cases hm : (c + j) % 32 ∈ wk B c j
    · rw [wk_in hm]; exact ih
    · rw [wk_out hm, List.nodup_append]
      refine ⟨ih, by simp, fun a ha b hb => ?_⟩
      rw [List.mem_singleton] at hb
      subst hb
      exact fun e => hm (e ▸ ha)
theorem wk_lt {B : List Nat} (c j : Nat) (h : ∀ x ∈ B, x < 32) : ∀ x ∈ wk B c j, x < 32 := fun x hx => by
  rcases (wk_mem B c j x).1 hx with h1 | ⟨i, _, rfl⟩
  · exact h x h1
  · omega
/-- who has all of the first n has n at least. -/
theorem has_all : ∀ (n : Nat) (l : List Nat), (∀ i, i < n → i ∈ l) → n ≤ l.length
  | 0, _, _ => Nat.zero_le _
  | n + 1, l, h => by
    have h1 := has_all n (l.erase n) (fun i hi => (List.mem_erase_of_ne (by omega)).2 (h i (by omega)))
    rw [List.length_erase_of_mem (h n (by omega))] at h1
    have : 0 < l.length := List.length_pos_of_mem (h n (by omega))
    omega
theorem wk_full (B : List Nat) (c : Nat) : 32 ≤ (wk B c 32).length := has_all 32 _ fun i hi => by
  rw [wk_mem]
  refine .inr ⟨(i + 32 - c % 32) % 32, by omega, ?_⟩
  omega
/-- that many slots are passed: the first count at which the batch is full. -/
def Full (B : List Nat) (c j : Nat) : Prop := (∀ i, i < j → (wk B c i).length < 8) ∧ 8 ≤ (wk B c j).length
theorem Full.one {B : List Nat} {c i j : Nat} (h : Full B c i) (k : Full B c j) : i = j := by
  rcases Nat.lt_trichotomy i j with hlt | e | hlt
  · have := k.1 i hlt; have := h.2; omega
  · exact e
  · have := h.1 j hlt; have := k.2; omega
theorem Full.le {B : List Nat} {c j : Nat} (h : Full B c j) : j ≤ 32 := by
  rcases Nat.lt_or_ge 32 j with hlt | h1
  · have := h.1 32 hlt; have := wk_full B c; omega
  · exact h1
theorem wk_le8 {B : List Nat} {c j : Nat} (hB : B.length ≤ 8) (h : ∀ i, i < j → (wk B c i).length < 8) : (wk B c j).length ≤ 8 := by
  cases j with
  | zero => exact hB
  | succ j => have := h j (by omega); have := (wk_len B c j).2; omega
theorem Full.len {B : List Nat} {c j : Nat} (h : Full B c j) (hB : B.length ≤ 8) : (wk B c j).length = 8 := by
  have := wk_le8 hB h.1; have := h.2; omega
theorem full_ex (B : List Nat) (c : Nat) : ∃ j, Full B c j := by
  have key : ∀ n, 8 ≤ (wk B c n).length → ∃ j, Full B c j := by
    intro n
    induction n using Nat.strongRecOn with
    | ind n ih =>
      intro hn
      by_cases h : ∀ i, i < n → (wk B c i).length < 8
      · exact ⟨n, h, hn⟩
      · simp only [Classical.not_forall] at h
        obtain ⟨i, hi, hl⟩ := h
        exact ih i hi (by omega)
  exact key 32 (by have := wk_full B c; omega)
theorem wk_pre (B : List Nat) (c : Nat) : ∀ j, ∃ R, wk B c j = B ++ R
  | 0 => ⟨[], by rw [wk_zero, List.append_nil]⟩
  | j + 1 => by
    obtain ⟨R, hR⟩ := wk_pre B c j
    rw [wk]
    split
    · exact ⟨R, hR⟩
    · exact ⟨R ++ [(c + j) % 32], by rw [hR, List.append_assoc]⟩
/-- what is told, and the cursor behind it. -/
structure Nx (T : Tb) (D : To) (c : Nat) (L : List Nat) (c' : Nat) : Prop where
  ex : ∃ j, Full ((newsL T D).take 8) c j ∧ L = wk ((newsL T D).take 8) c j ∧ c' = (c + j) % 32
/-- what was told behind it. -/
def toldD (T : Tb) (D : To) (L : List Nat) : To := fun i => if i ∈ L then (T i).ve else D i
theorem newsL_mem {T : Tb} {D : To} {x : Nat} : x ∈ newsL T D ↔ x < 32 ∧ (T x).ve ≠ D x := by
  unfold newsL; simp
theorem newsL_nodup (T : Tb) (D : To) : (newsL T D).Nodup := List.Nodup.sublist List.filter_sublist List.nodup_range
theorem newsL_len (T : Tb) (D : To) : (newsL T D).length ≤ 32 := by
  have := List.length_filter_le (fun i => (T i).ve != D i) (List.range 32)
  simpa [newsL] using this
theorem Nx.ex' (T : Tb) (D : To) (c : Nat) : ∃ L c', Nx T D c L c' := by
  obtain ⟨j, hj⟩ := full_ex ((newsL T D).take 8) c
  exact ⟨_, _, ⟨j, hj, rfl, rfl⟩⟩
theorem Nx.one {T : Tb} {D : To} {c : Nat} {L L' : List Nat} {c1 c2 : Nat} (h : Nx T D c L c1) (k : Nx T D c L' c2) : L = L' ∧ c1 = c2 := by
  obtain ⟨i, hi, rfl, rfl⟩ := h.ex
  obtain ⟨j, hj, rfl, rfl⟩ := k.ex
  obtain rfl := hi.one hj
  exact ⟨rfl, rfl⟩
theorem take8 (l : List Nat) : (l.take 8).length ≤ 8 := by rw [List.length_take]; omega
theorem Nx.len {T : Tb} {D : To} {c : Nat} {L : List Nat} {c1 : Nat} (h : Nx T D c L c1) : L.length = 8 := by
  obtain ⟨i, hi, rfl, rfl⟩ := h.ex
  exact hi.len (take8 _)
theorem Nx.lt {T : Tb} {D : To} {c : Nat} {L : List Nat} {c1 : Nat} (h : Nx T D c L c1) : ∀ x ∈ L, x < 32 := by
  obtain ⟨i, hi, rfl, rfl⟩ := h.ex
  exact wk_lt _ _ fun x hx => (newsL_mem.1 (List.mem_of_mem_take hx)).1
theorem Nx.nodup {T : Tb} {D : To} {c : Nat} {L : List Nat} {c1 : Nat} (h : Nx T D c L c1) : L.Nodup := by
  obtain ⟨i, hi, rfl, rfl⟩ := h.ex
  exact wk_nodup _ _ ((newsL_nodup T D).sublist (List.take_sublist _ _))
theorem Nx.cur {T : Tb} {D : To} {c : Nat} {L : List Nat} {c1 : Nat} (h : Nx T D c L c1) : c1 < 32 := by
  obtain ⟨i, hi, rfl, rfl⟩ := h.ex
  omega
/-- behind it, what is new is what was new but for the first eight. -/
theorem Nx.news {T : Tb} {D : To} {c : Nat} {L : List Nat} {c1 : Nat} (h : Nx T D c L c1) : newsL T (toldD T D L) = (newsL T D).drop 8 := by
  have hf : newsL T (toldD T D L) = (newsL T D).filter fun i => decide (i ∉ L) := by
    unfold newsL
    rw [List.filter_filter]
    apply List.filter_congr
    intro x _
    unfold toldD
    by_cases hx : x ∈ L <;> simp [hx]
  rw [hf]
  obtain ⟨j, hj, rfl, _⟩ := h.ex
  have hnd := newsL_nodup T D
  have hsplit : newsL T D = (newsL T D).take 8 ++ (newsL T D).drop 8 := (List.take_append_drop 8 _).symm
  by_cases h8 : 8 ≤ (newsL T D).length
  · have hj0 : j = 0 := by
      rcases Nat.eq_zero_or_pos j with e | hp
      · exact e
      · have := hj.1 0 hp
        rw [wk_zero, List.length_take] at this
        omega
    subst hj0
    rw [wk_zero]
    generalize newsL T D = N at *
    rw [hsplit] at hnd
    rw [List.nodup_append] at hnd
    have h1 : (N.take 8).filter (fun i => decide (i ∉ N.take 8)) = [] := by
      rw [List.filter_eq_nil_iff]
      intro x hx
      simp [hx]
    have h2 : (N.drop 8).filter (fun i => decide (i ∉ N.take 8)) = N.drop 8 := by
      rw [List.filter_eq_self]
      intro x hx
      simp only [decide_eq_true_eq]
      exact fun hx2 => hnd.2.2 x hx2 x hx rfl
    conv => lhs; rw [hsplit]
    rw [List.filter_append]
    rw [List.take_append_drop, h1, h2, List.nil_append]
  · have h0 : (newsL T D).drop 8 = [] := List.drop_eq_nil_of_le (by omega)
    rw [h0, List.filter_eq_nil_iff]
    intro x hx
    have : x ∈ wk ((newsL T D).take 8) c j := (wk_mem _ _ _ _).2 (.inl (by rw [List.take_of_length_le (by omega)]; exact hx))
    simp [this]
end Go.Proofs.YtjfhompbeengmaaDoor

namespace Go.Proofs.YtjfhompbeengmaaDoor
open Go.RowKit Go.Maps

theorem patch_at (cs : Array Value) (p : Nat) (xs : List Value) (h : p + xs.length ≤ cs.size) (q : Nat) : ((cs.toList.take p ++ xs ++ cs.toList.drop (p + xs.length)).toArray)[q]? = if p ≤ q ∧ q < p + xs.length then xs[q - p]? else cs[q]? := by
  have ht : (cs.toList.take p).length = p := by rw [List.length_take, Array.length_toList]; omega
  rw [List.getElem?_toArray]
  by_cases h1 : q < p
  · rw [if_neg (by omega), List.append_assoc, List.getElem?_append_left (by omega), List.getElem?_take, if_pos h1, Array.getElem?_toList]
  · by_cases h2 : q < p + xs.length
    · rw [if_pos (by omega), List.getElem?_append_left (by rw [List.length_append, ht]; omega), List.getElem?_append_right (by omega), ht]
    · rw [if_neg (by omega), List.getElem?_append_right (by rw [List.length_append, ht]; omega), List.length_append, ht, List.getElem?_drop, Array.getElem?_toList]
      congr 1
      omega
theorem patch_size (cs : Array Value) (p : Nat) (xs : List Value) (h : p + xs.length ≤ cs.size) : ((cs.toList.take p ++ xs ++ cs.toList.drop (p + xs.length)).toArray).size = cs.size := by
  simp only [List.size_toArray, List.length_append, List.length_take, List.length_drop, Array.length_toList]
  omega
/-- the ten cells of a slot. -/
def slC (T : Tb) (s : Nat) : List Value := [.int .i64 s, .int .i64 (T s).ve, .int .i64 (T s).pr, .int .i64 (T s).ia, .int .i64 (T s).ip, .int .i64 (T s).fa, .int .i64 (T s).fp, .int .i64 (T s).po, .int .i64 (T s).st, .int .i64 (T s).un]
theorem slC_len (T : Tb) (s : Nat) : (slC T s).length = 10 := rfl
theorem slC_at (T : Tb) (s k : Nat) (hk : k < 10) : (slC T s)[k]? = some (.int .i64 ((T s).get s k)) := by
  have hl : k = 0 ∨ k = 1 ∨ k = 2 ∨ k = 3 ∨ k = 4 ∨ k = 5 ∨ k = 6 ∨ k = 7 ∨ k = 8 ∨ k = 9 := by omega
  rcases hl with rfl | rfl | rfl | rfl | rfl | rfl | rfl | rfl | rfl | rfl <;> rfl
theorem slC_one (T : Tb) (s : Nat) : ∀ u ∈ slC T s, u.oneCell' = true := fun u hu => by
  simp only [slC, List.mem_cons, List.not_mem_nil, or_false] at hu
  rcases hu with rfl | rfl | rfl | rfl | rfl | rfl | rfl | rfl | rfl | rfl <;> rfl
/-- the cells of these slots, one behind the other. -/
def slCs (T : Tb) : List Nat → List Value
  | [] => []
  | s :: l => slC T s ++ slCs T l
theorem slCs_len (T : Tb) : ∀ B : List Nat, (slCs T B).length = B.length * 10
  | [] => rfl
  | s :: l => by rw [slCs, List.length_append, slC_len, slCs_len T l, List.length_cons]; omega
theorem slCs_one (T : Tb) : ∀ B : List Nat, ∀ u ∈ slCs T B, u.oneCell' = true
  | [], _, hu => by simp [slCs] at hu
  | s :: l, u, hu => by
    rw [slCs, List.mem_append] at hu
    rcases hu with h | h
    · exact slC_one T s u h
    · exact slCs_one T l u h
theorem slCs_app (T : Tb) : ∀ A B : List Nat, slCs T (A ++ B) = slCs T A ++ slCs T B
  | [], _ => rfl
  | s :: l, B => by rw [List.cons_append, slCs, slCs_app T l B, slCs, List.append_assoc]
theorem slCs_at (T : Tb) : ∀ (B : List Nat) (j s k : Nat), B[j]? = some s → k < 10 → (slCs T B)[j * 10 + k]? = some (.int .i64 ((T s).get s k))
  | [], _, _, _, h, _ => by simp at h
  | x :: l, 0, s, k, h, hk => by
    simp only [List.getElem?_cons_zero, Option.some.injEq] at h
    subst h
    rw [slCs, List.getElem?_append_left (by rw [slC_len]; omega), Nat.zero_mul, Nat.zero_add, slC_at T x k hk]
  | x :: l, j + 1, s, k, h, hk => by
    rw [List.getElem?_cons_succ] at h
    rw [slCs, List.getElem?_append_right (by rw [slC_len]; omega), slC_len, show (j + 1) * 10 + k - 10 = j * 10 + k from by omega]
    exact slCs_at T l j s k h hk
/-- a block of 8 rows that begins with the cells of these slots. -/
def RowsB (w : World) (Z : Nat) (T : Tb) (L : List Nat) : Prop := ∃ cs : Array Value, w.heap[Z]? = some (.cells cs 86 (0, 0)) ∧ cs.size = 80 ∧ ∀ j s : Nat, L[j]? = some s → ∀ k, k < 10 → cs[j * 10 + k]? = some (.int .i64 ((T s).get s k))
theorem RowsB.at' {w : World} {Z : Nat} {T : Tb} {L : List Nat} (h : RowsB w Z T L) {j s k : Nat} (hj : L[j]? = some s) (hk : k < 10) : w.cell? ⟨Z, j * 10 + k, none⟩ = some (.int .i64 ((T s).get s k)) := by
  obtain ⟨cs, h1, _, h3⟩ := h
  rw [cell_of_row w Z _ _ _ _ h1, h3 j s hj k hk]
theorem RowsB.lt {w : World} {Z : Nat} {T : Tb} {L : List Nat} (h : RowsB w Z T L) : Z < w.heap.size := by
  obtain ⟨cs, h1, _, _⟩ := h
  rcases Nat.lt_or_ge Z w.heap.size with h2 | h2
  · exact h2
  · rw [Array.getElem?_eq_none h2] at h1; cases h1
theorem RowsB.below {w w' : World} {Z : Nat} {T : Tb} {L : List Nat} (h : RowsB w Z T L) (hb : Below w.heap.size w w') : RowsB w' Z T L := by
  have hl := h.lt
  obtain ⟨cs, h1, h2⟩ := h
  exact ⟨cs, by rw [hb.block Z hl]; exact h1, h2⟩
theorem RowsB.chg {w w' : World} {Z b : Nat} {T : Tb} {L : List Nat} (h : RowsB w Z T L) (hb : Chg b w w') (hn : Z ≠ b) : RowsB w' Z T L := by
  have hl := h.lt
  obtain ⟨cs, h1, h2⟩ := h
  exact ⟨cs, by rw [hb.block Z hl hn]; exact h1, h2⟩
theorem RowsB.chg2 {w w' : World} {Z b c : Nat} {T : Tb} {L : List Nat} (h : RowsB w Z T L) (hb : Chg2 b c w w') (h1 : Z ≠ b) (h2 : Z ≠ c) : RowsB w' Z T L := by
  have hl := h.lt
  obtain ⟨cs, e1, e2⟩ := h
  exact ⟨cs, by rw [hb.block Z hl h1 h2]; exact e1, e2⟩
theorem RowsB.take {w : World} {Z : Nat} {T : Tb} {L : List Nat} (h : RowsB w Z T L) (n : Nat) : RowsB w Z T (L.take n) := by
  obtain ⟨cs, h1, h2, h3⟩ := h
  refine ⟨cs, h1, h2, fun j s hj => h3 j s ?_⟩
  rw [List.getElem?_take] at hj
  split at hj
  · exact hj
  · cases hj
theorem chg_row (w : World) (b : Nat) (cs : Array Value) : Chg b w (w.setRow b cs) :=
  ⟨rfl, rfl, rfl, by simp [World.setRow], fun k _ hn => by simp only [World.setRow]; rw [Array.getElem?_modify, if_neg (fun e => hn e.symm)]⟩
theorem Tryd.cellInfo : ∃ i, Tryd.prog.info? 86 = some i ∧ i.size = 10 := by
  obtain ⟨i, hi, hz⟩ := Option.map_eq_some_iff.1 Tryd.infoCell
  simp only [Prod.mk.injEq] at hz
  exact ⟨i, hi, hz.2.1⟩
theorem rows_appends {w : World} {Z : Nat} {T : Tb} {L : List Nat} (h : RowsB w Z T L) (B : List Nat) (a : Addr) (c : Nat) (ty : TypeId) (ha : ∀ j u, (slCs T B)[j]? = some u → w.cell? (a.add j) = some u) (hL : L.length + B.length ≤ 8) :
    ∃ w', (Builtin.append_ #[109, 109] ty #[.slice (some ⟨Z, 0, none⟩) L.length 8, .slice (some a) B.length c]).run Tryd.prog w = .ok (.slice (some ⟨Z, 0, none⟩) (L.length + B.length) 8) w' ∧ RowsB w' Z T (L ++ B) ∧ Chg Z w w' := by
  obtain ⟨cs, h1, h2, h3⟩ := h
  obtain ⟨i, hi, hz⟩ := Tryd.cellInfo
  have hf := run_firstCells_some (P := Tryd.prog) w i.size B.length a B.length c (slCs T B) (by rw [hz]; exact slCs_len T B) ha
  have hle : L.length * 10 + (slCs T B).length ≤ cs.size := by rw [slCs_len]; omega
  have hst := run_storeCells_at Tryd.prog Z (L.length * 10) 86 (slCs T B) 0 cs w h1 hle (slCs_one T B)
  rw [Nat.add_zero] at hst
  refine ⟨w.setRow Z (cs.toList.take (L.length * 10) ++ slCs T B ++ cs.toList.drop (L.length * 10 + (slCs T B).length)).toArray, ?_, ⟨_, setRow_heap w Z cs _ _ _ h1, by rw [patch_size _ _ _ hle]; exact h2, fun j x hj k hk => ?_⟩, chg_row _ _ _⟩
  · have hroom : L.length + B.length ≤ 8 := hL
    rw [hz] at hf
    simp [Builtin.append_, run_underlying Tryd.underlying109, sizeOf, typeInfo, hi, hz, Builtin.lenOf, hroom, hf, Addr.add_lit, hst]
  · rw [patch_at _ _ _ hle, slCs_len]
    rcases Nat.lt_or_ge j L.length with hlt | hge
    · rw [List.getElem?_append_left hlt] at hj
      rw [if_neg (by omega)]
      exact h3 j x hj k hk
    · rw [List.getElem?_append_right hge] at hj
      have hjb := (List.getElem?_eq_some_iff.1 hj).1
      rw [if_pos (by omega), show j * 10 + k - L.length * 10 = (j - L.length) * 10 + k from by omega]
      exact slCs_at T B _ x k hj hk
theorem rows_append {w : World} {Z : Nat} {T : Tb} {L : List Nat} (h : RowsB w Z T L) (a : Addr) (s c : Nat) (ty : TypeId) (ha : ∀ j u, (slC T s)[j]? = some u → w.cell? (a.add j) = some u) (hL : L.length < 8) :
    ∃ w', (Builtin.append_ #[109, 109] ty #[.slice (some ⟨Z, 0, none⟩) L.length 8, .slice (some a) 1 c]).run Tryd.prog w = .ok (.slice (some ⟨Z, 0, none⟩) (L.length + 1) 8) w' ∧ RowsB w' Z T (L ++ [s]) ∧ Chg Z w w' :=
  rows_appends h [s] a c ty (by rw [slCs, slCs, List.append_nil]; exact ha) hL
theorem wpList_append_eq {P : Program} {ops : Array Oper} {rest : List Oper} {o : Oper} {a : Act} {w : World} {Q : Exit → Act → World → Prop} (hgd : o.guard = none) (s x : Operand) (t : TypeId) (ho : o.op = .call { callee := .builtin .append, args := #[s, x], argTypes := #[t, t] })
    (u v v' : Value) (w' : World) (hs : a.eval s = u) (hx : a.eval x = v) (hr : (Builtin.append_ #[t, t] o.type #[u, v]).run P w = .ok v' w') (h : wpList P ops Q rest (a.put o.dst v') w') : wpList P ops Q (o :: rest) a w := by
  refine wpList_plain hgd fun K hK => ?_
  unfold Oper.wp execOp
  simp only [ho, resolve, invoke, builtin, Sem.run_bind, Sem.run_pure, Result.andThen_ok, List.map_toArray, List.map_cons, List.map_nil, hs, hx, hr]
  exact hK _ _ h
theorem wpList_clear_eq {P : Program} {ops : Array Oper} {rest : List Oper} {o : Oper} {a : Act} {w : World} {Q : Exit → Act → World → Prop} (hgd : o.guard = none) (s : Operand) (t : TypeId) (ho : o.op = .call { callee := .builtin .clear, args := #[s], argTypes := #[t] })
    (u v' : Value) (w' : World) (hs : a.eval s = u) (hr : (Builtin.clear_ #[t] o.type #[u]).run P w = .ok v' w') (h : wpList P ops Q rest (a.put o.dst v') w') : wpList P ops Q (o :: rest) a w := by
  refine wpList_plain hgd fun K hK => ?_
  unfold Oper.wp execOp
  simp only [ho, resolve, invoke, builtin, Sem.run_bind, Sem.run_pure, Result.andThen_ok, List.map_toArray, List.map_cons, List.map_nil, hs, hr]
  exact hK _ _ h
theorem wpList_store_eq {P : Program} {ops : Array Oper} {rest : List Oper} {o : Oper} {a : Act} {w : World} {Q : Exit → Act → World → Prop} (hgd : o.guard = none) (ty : TypeId) (x y : Operand) (ho : o.op = .store ty x y)
    (u v : Value) (w' : World) (hx : a.eval x = u) (hy : a.eval y = v) (hl : (Instr.storeAt ty u v).run P w = .ok () w') (h : wpList P ops Q rest (a.put o.dst undef) w') : wpList P ops Q (o :: rest) a w :=
  wpList_plain hgd fun K hK => by
    unfold Oper.wp execOp
    simp only [ho, hx, hy, Sem.run_bind, hl, Result.andThen_ok, Sem.run_pure]
    exact hK _ _ h
/-- the map of what was told. -/
def ToldM (w : World) (M n : Nat) (D : To) : Prop := ∃ d : DataW Unit, w.ownsMap Tryd.prog 3 (plainElem Tryd.prog 3) M n d ∧ ∀ k : Nat, k < 32 → d.atKey (.int .i64 k) (.lit (.int .i64 0)) = .lit (.int .i64 (D k))
theorem ikey : Keyed Tryd.prog 3 := int_keyed Tryd.underlying3
theorem izero (w : World) : (zeroValue 3).run Tryd.prog w = .ok (.int .i64 0) w := by kernel_rfl
theorem wfI {x : Int} (h0 : -1000000 ≤ x) (h1 : x ≤ 1000000000) : (Lit.int .i64 x).wf = true := WalkArith.wf_i64 (by omega)
theorem ToldM.chg {w w' : World} {M n b : Nat} {D : To} (h : ToldM w M n D) (hb : Chg b w w') (hn : M ≠ b) : ToldM w' M n D := by
  obtain ⟨d, h1, h2⟩ := h
  exact ⟨d, h1.kept (row := some b) ⟨hb.os, hb.tape, hb.output, hb.size, fun k hk hne => hb.block k hk (by simpa using hne)⟩ (by simpa using hn), h2⟩
theorem ToldM.chg2 {w w' : World} {M n b c : Nat} {D : To} (h : ToldM w M n D) (hb : Chg2 b c w w') (h1 : M ≠ b) (h2 : M ≠ c) : ToldM w' M n D := by
  obtain ⟨d, e1, e2⟩ := h
  have hl := e1.lt
  obtain ⟨es, ck, a1, a2⟩ := e1
  exact ⟨d, ⟨es, ck, by rw [hb.block M hl h1 h2]; exact a1, a2⟩, e2⟩
theorem ToldM.below {w w' : World} {M n : Nat} {D : To} (h : ToldM w M n D) (hb : Below w.heap.size w w') : ToldM w' M n D := by
  obtain ⟨d, h1, h2⟩ := h
  have hl := h1.lt
  exact (ToldM.chg (b := M + 1) ⟨d, h1, h2⟩ (Chg.of hb) (by omega))
theorem ToldM.lt {w : World} {M n : Nat} {D : To} (h : ToldM w M n D) : M < w.heap.size := by
  obtain ⟨d, h1, h2⟩ := h
  exact h1.lt
theorem told_new (w : World) : ToldM (w.alloc (.map #[] 0)) w.heap.size 0 (fun _ => 0) := ⟨.map [], World.ownsMap_made _ _ _ _, fun _ _ => rfl⟩
/-- a teller in memory. -/
structure Tel (w : World) (X b M n : Nat) (D : To) (c : Nat) : Prop where
  c0 : w.cell? ⟨X, 0, none⟩ = some (.pointer (some ⟨b, 0, none⟩))
  c1 : w.cell? ⟨X, 1, none⟩ = some (.map (some M))
  c2 : w.cell? ⟨X, 2, none⟩ = some (.int .i64 c)
  f2 : w.frozen? ⟨X, 2, none⟩ = false
  m : ToldM w M n D
  ne : X ≠ M
  lt : c < 32
theorem Tel.below {w w' : World} {X b M n : Nat} {D : To} {c : Nat} (h : Tel w X b M n D c) (hb : Below w.heap.size w w') : Tel w' X b M n D c :=
  ⟨tk hb h.c0, tk hb h.c1, tk hb h.c2, (frozen_of_block (hb.block X (tlt h.c0))).trans h.f2, h.m.below hb, h.ne, h.lt⟩
theorem Tel.chg {w w' : World} {X b M n g : Nat} {D : To} {c : Nat} (h : Tel w X b M n D c) (hb : Chg g w w') (h1 : X ≠ g) (h2 : M ≠ g) : Tel w' X b M n D c :=
  ⟨hb.keeps h1 h.c0, hb.keeps h1 h.c1, hb.keeps h1 h.c2, (frozen_of_block (hb.block X (tlt h.c0) h1)).trans h.f2, h.m.chg hb h2, h.ne, h.lt⟩
theorem Tel.chg2 {w w' : World} {X b M n g g' : Nat} {D : To} {c : Nat} (h : Tel w X b M n D c) (hb : Chg2 g g' w w') (h1 : X ≠ g) (h1' : X ≠ g') (h2 : M ≠ g) (h2' : M ≠ g') : Tel w' X b M n D c :=
  ⟨hb.keeps h1 h1' h.c0, hb.keeps h1 h1' h.c1, hb.keeps h1 h1' h.c2, (frozen_of_block (hb.block X (tlt h.c0) h1 h1')).trans h.f2, h.m.chg2 hb h2 h2', h.ne, h.lt⟩
theorem Tel.cur {w : World} {X b M n : Nat} {D : To} {c : Nat} (h : Tel w X b M n D c) {c' : Nat} (hc : c' < 32) : Tel (w.setCell ⟨X, 2, none⟩ (.int .i64 c')) X b M n D c' where
  c0 := by rw [World.cell?_setCell_other _ _ _ _ (by simp)]; exact h.c0
  c1 := by rw [World.cell?_setCell_other _ _ _ _ (by simp)]; exact h.c1
  c2 := World.cell?_setCell_same' w _ _ (by rw [h.c2]; rfl)
  f2 := (World.frozen?_setCell _ _ _ _).trans h.f2
  m := h.m.chg (Chg.set X 2 w _) (fun e => h.ne e.symm)
  ne := h.ne
  lt := hc
end Go.Proofs.YtjfhompbeengmaaDoor

namespace Go.Proofs.YtjfhompbeengmaaDoor
open Go.RowKit Go.Maps

theorem lit_inj {H : Type} {a b : Int} (h : (DataW.lit (.int .i64 a) : DataW H) = .lit (.int .i64 b)) : a = b := by cases h; rfl
theorem ToldM.look {w : World} {M n : Nat} {D : To} (h : ToldM w M n D) {k : Nat} (hk : k < 32) : (Instr.lookup 69 (.map (some M)) (.int .i64 k) false).run Tryd.prog w = .ok (.int .i64 (D k)) w := by
  obtain ⟨d, h1, h2⟩ := h
  obtain ⟨c, hrun, hat, _⟩ := h1.lookup_int ikey Tryd.underlying69 Tryd.underlying3 (izero _) (keyOf_int_mk Tryd.underlying3 (wfI (x := k) (by omega) (by omega)))
  have e := (h2 k hk).symm.trans hat
  have e2 : D k = c := lit_inj e
  subst e2
  exact hrun
/-- a slot's cell in a block of its own. -/
structure TcB10 (w : World) (b : Nat) (T : Tb) (s : Nat) : Prop where
  c0 : w.cell? ⟨b, 0, none⟩ = some (.int .i64 s)
  c1 : w.cell? ⟨b, 1, none⟩ = some (.int .i64 (T s).ve)
  c2 : w.cell? ⟨b, 2, none⟩ = some (.int .i64 (T s).pr)
  c3 : w.cell? ⟨b, 3, none⟩ = some (.int .i64 (T s).ia)
  c4 : w.cell? ⟨b, 4, none⟩ = some (.int .i64 (T s).ip)
  c5 : w.cell? ⟨b, 5, none⟩ = some (.int .i64 (T s).fa)
  c6 : w.cell? ⟨b, 6, none⟩ = some (.int .i64 (T s).fp)
  c7 : w.cell? ⟨b, 7, none⟩ = some (.int .i64 (T s).po)
  c8 : w.cell? ⟨b, 8, none⟩ = some (.int .i64 (T s).st)
  c9 : w.cell? ⟨b, 9, none⟩ = some (.int .i64 (T s).un)
theorem TcB10.below {w w' : World} {b : Nat} {T : Tb} {s : Nat} (h : TcB10 w b T s) (hb : Below w.heap.size w w') : TcB10 w' b T s :=
  ⟨tk hb h.c0, tk hb h.c1, tk hb h.c2, tk hb h.c3, tk hb h.c4, tk hb h.c5, tk hb h.c6, tk hb h.c7, tk hb h.c8, tk hb h.c9⟩
theorem TcB10.chg {w w' : World} {b g : Nat} {T : Tb} {s : Nat} (h : TcB10 w b T s) (hb : Chg g w w') (hn : b ≠ g) : TcB10 w' b T s :=
  ⟨hb.keeps hn h.c0, hb.keeps hn h.c1, hb.keeps hn h.c2, hb.keeps hn h.c3, hb.keeps hn h.c4, hb.keeps hn h.c5, hb.keeps hn h.c6, hb.keeps hn h.c7, hb.keeps hn h.c8, hb.keeps hn h.c9⟩
theorem tcB10_new (w : World) (T : Tb) (s : Nat) : TcB10 (w.alloc (.cells #[.int .i64 s, .int .i64 (T s).ve, .int .i64 (T s).pr, .int .i64 (T s).ia, .int .i64 (T s).ip, .int .i64 (T s).fa, .int .i64 (T s).fp, .int .i64 (T s).po, .int .i64 (T s).st, .int .i64 (T s).un] 86)) w.heap.size T s :=
  ⟨(nw _ _ _ _).trans rfl, (nw _ _ _ _).trans rfl, (nw _ _ _ _).trans rfl, (nw _ _ _ _).trans rfl, (nw _ _ _ _).trans rfl, (nw _ _ _ _).trans rfl, (nw _ _ _ _).trans rfl, (nw _ _ _ _).trans rfl, (nw _ _ _ _).trans rfl, (nw _ _ _ _).trans rfl⟩
/-- a slot's cell is stored whole into a block of ten cells. -/
theorem ten_store {w : World} {V : Nat} {cs : Array Value} (T : Tb) (s : Nat) (h1 : w.heap[V]? = some (.cells cs 86 (0, 0))) (h2 : cs.size = 10) :
    ∃ w', (Instr.storeAt 86 (.pointer (some ⟨V, 0, none⟩)) (cellV s (T s))).run Tryd.prog w = .ok () w' ∧ TcB10 w' V T s ∧ Chg V w w' := by
  have hs : (sizeOf 86).run Tryd.prog w = .ok 10 w := by kernel_rfl
  have hst := run_storeCells_at Tryd.prog V 0 86 (slC T s) 0 cs w h1 (by rw [slC_len]; omega) (slC_one T s)
  have hle : 0 + (slC T s).length ≤ cs.size := by rw [slC_len]; omega
  have hh := setRow_heap w V cs (cs.toList.take 0 ++ slC T s ++ cs.toList.drop (0 + (slC T s).length)).toArray _ _ h1
  have hc : ∀ k, k < 10 → (w.setRow V (cs.toList.take 0 ++ slC T s ++ cs.toList.drop (0 + (slC T s).length)).toArray).cell? ⟨V, k, none⟩ = some (.int .i64 ((T s).get s k)) := fun k hk => by
    rw [cell_of_row _ V _ _ _ _ hh, patch_at _ _ _ hle, slC_len, if_pos (by omega), Nat.sub_zero, slC_at T s k hk]
  refine ⟨_, ?_, ⟨hc 0 (by omega), hc 1 (by omega), hc 2 (by omega), hc 3 (by omega), hc 4 (by omega), hc 5 (by omega), hc 6 (by omega), hc 7 (by omega), hc 8 (by omega), hc 9 (by omega)⟩, chg_row _ _ _⟩
  simp only [Instr.storeAt, Instr.sureAddr, Sem.run_bind, Sem.run_pure, Result.andThen_ok, storeVar, hs, Value.cells, cellV]
  simp
  simpa [slC] using hst
set_option maxRecDepth 100000 in
set_option maxHeartbeats 2000000 in
theorem tcell_any (X b : Nat) (low : Int) (T : Tb) (j : Nat) (w : World) (c0 : w.cell? ⟨X, 0, none⟩ = some (.pointer (some ⟨b, 0, none⟩))) (t : Tab w b low T) (hj : j < 32) :
    Calls Tryd.prog 79 #[.pointer (some ⟨X, 0, none⟩), .int .i64 j] w fun e w' => e = .returned (cellV j (T j)) ∧ Below w.heap.size w w' := by
  have HT : Hid (Tab w b low T) := t
  have hxl := tlt c0
  simp only at hxl
  clear t
  go_enter Tryd.func79, Tryd.ntmps79
  go_wp2_with fail
  have hV : (w.alloc (.cells #[.int .i64 0, .int .i64 0, .int .i64 0, .int .i64 0, .int .i64 0, .int .i64 0, .int .i64 0, .int .i64 0, .int .i64 0, .int .i64 0] 86)).heap[w.heap.size]? = some (.cells #[.int .i64 0, .int .i64 0, .int .i64 0, .int .i64 0, .int .i64 0, .int .i64 0, .int .i64 0, .int .i64 0, .int .i64 0, .int .i64 0] 86 (0, 0)) := heap_alloc_new _ _
  have B0 : Hid (Below w.heap.size w (w.alloc (.cells #[.int .i64 0, .int .i64 0, .int .i64 0, .int .i64 0, .int .i64 0, .int .i64 0, .int .i64 0, .int .i64 0, .int .i64 0, .int .i64 0] 86))) := aB _ _
  have hz : (w.alloc (.cells #[.int .i64 0, .int .i64 0, .int .i64 0, .int .i64 0, .int .i64 0, .int .i64 0, .int .i64 0, .int .i64 0, .int .i64 0, .int .i64 0] 86)).heap.size = w.heap.size + 1 := by simp
  generalize w.alloc (.cells #[.int .i64 0, .int .i64 0, .int .i64 0, .int .i64 0, .int .i64 0, .int .i64 0, .int .i64 0, .int .i64 0, .int .i64 0, .int .i64 0] 86) = w0 at *
  refine (get_ok b low T j w0 (HT.out.below B0.out) hj).mono ?_
  rintro e w1 ⟨rfl, hb1⟩
  have hb2 := hb1.alloc hb1.size (.cells #[.int .i64 j, .int .i64 (T j).ve, .int .i64 (T j).pr, .int .i64 (T j).ia, .int .i64 (T j).ip, .int .i64 (T j).fa, .int .i64 (T j).fp, .int .i64 (T j).po, .int .i64 (T j).st, .int .i64 (T j).un] 86)
  obtain ⟨w2, hst, ht2, hc2⟩ := ten_store T j ((hb2.block _ (by omega)).trans hV) rfl
  have B2 : Hid (Below w.heap.size w w2) := Chg.below (t2 B0.out hb2) hc2 (Nat.le_refl _)
  have c0 := ht2.c0
  have c1 := ht2.c1
  have c2 := ht2.c2
  have c3 := ht2.c3
  have c4 := ht2.c4
  have c5 := ht2.c5
  have c6 := ht2.c6
  have c7 := ht2.c7
  have c8 := ht2.c8
  have c9 := ht2.c9
  clear hb1 hb2 ht2 hc2 hV hz B0 HT
  unfold cellV at *

  go_wp2_with (refine wpList_store_eq rfl 86 _ _ rfl _ _ _ rfl rfl hst ?_)
  exact bodyPost_ret (v := cellV j (T j)) (by simp [results, Tryd.results79, go_sem, cellV, c0, c1, c2, c3, c4, c5, c6, c7, c8, c9]) rfl ⟨rfl, B2.out⟩
end Go.Proofs.YtjfhompbeengmaaDoor

namespace Go.Proofs.YtjfhompbeengmaaDoor
open Go.RowKit Go.Maps

/-- what is new among the first j slots. -/
def newsN (T : Tb) (D : To) (j : Nat) : List Nat := (List.range j).filter fun i => (T i).ve != D i
theorem newsN_all (T : Tb) (D : To) : newsN T D 32 = newsL T D := rfl
theorem newsN_yes {T : Tb} {D : To} {j : Nat} (h : (T j).ve ≠ D j) : newsN T D (j + 1) = newsN T D j ++ [j] := by
  unfold newsN; rw [List.range_succ, List.filter_append]; simp [h]
theorem newsN_no {T : Tb} {D : To} {j : Nat} (h : (T j).ve = D j) : newsN T D (j + 1) = newsN T D j := by
  unfold newsN; rw [List.range_succ, List.filter_append]; simp [h]
theorem newsN_len (T : Tb) (D : To) (j : Nat) : (newsN T D j).length ≤ j := by
  have := List.length_filter_le (fun i => (T i).ve != D i) (List.range j)
  rw [List.length_range] at this
  exact this
theorem newsO_below {w w' : World} {base : Nat} {e : TypeId} {size : Nat} {v : Value} {n : Nat} {xs : List Value} (h : w.ownsRow base e size v n xs) (hb : Below w.heap.size w w') : w'.ownsRow base e size v n xs := by
  obtain ⟨h1, h2⟩ := h
  refine ⟨h1, ?_⟩
  rcases h2 with h | ⟨g, cap, cur, e1, e2, e3, r⟩
  · exact .inl h
  · exact .inr ⟨g, cap, cur, e1, e2, by rw [hb.block g (Array.getElem?_eq_some_iff.1 e3).1]; exact e3, r⟩
/-- news in memory: nil, or rows of their own. -/
def NewsV (w : World) (base : Nat) (T : Tb) (L : List Nat) (v : Value) : Prop := w.ownsRow base 86 10 v L.length (slCs T L)
set_option maxRecDepth 100000 in
set_option maxHeartbeats 4000000 in
theorem tnews_any (X b M n c : Nat) (low : Int) (T : Tb) (D : To) (w : World) (H : Tel w X b M n D c) (t : Tab w b low T) :
    Calls Tryd.prog 63 #[.pointer (some ⟨X, 0, none⟩)] w fun e w' => (∃ v, e = .returned v ∧ NewsV w' w.heap.size T (newsL T D) v) ∧ Below w.heap.size w w' := by
  obtain ⟨i0, hi, hz0, hz1, hz2⟩ := info_parts Tryd.infoCell
  have HH : Hid (Tel w X b M n D c) := H
  have HT : Hid (Tab w b low T) := t
  clear H t
  go_enter Tryd.func63, Tryd.ntmps63
  go_wp2_with fail
  go_loopw [3, 6] (fun v t wr => ∃ j : Nat, j ≤ 32 ∧ t = .int .i64 j ∧ NewsV wr w.heap.size T (newsN T D j) v ∧ Below w.heap.size w wr) (fun _ t _ => 32 - (intOf t).toNat)
  case atStart => exact ⟨0, by omega, rfl, World.ownsRow_nil _ _ _ _, Below.refl _ _⟩
  case round =>
    obtain ⟨j, hj, rfl, hown, hbr⟩ := hrel
    have HO : Hid (wr.ownsRow w.heap.size 86 10 u3 (newsN T D j).length (slCs T (newsN T D j))) := hown
    have HB : Hid (Below w.heap.size w wr) := hbr
    have hnl := newsN_len T D j
    clear hown hbr
    by_cases hlt : j < 32
    · go_wp2_with fail
      refine (tcell_any X b low T j wr (tk HB.out HH.out.c0) (HT.out.below HB.out) hlt).mono ?_
      rintro e w1 ⟨rfl, hb1⟩
      have B1 : Hid (Below w.heap.size w w1) := t2 HB.out hb1
      have O1 : Hid (w1.ownsRow w.heap.size 86 10 u3 (newsN T D j).length (slCs T (newsN T D j))) := newsO_below HO.out hb1
      clear hb1 HO HB
      unfold cellV
      go_wp2_with fail
      have A1 : Hid (TcB10 (w1.alloc (.cells #[.int .i64 j, .int .i64 (T j).ve, .int .i64 (T j).pr, .int .i64 (T j).ia, .int .i64 (T j).ip, .int .i64 (T j).fa, .int .i64 (T j).fp, .int .i64 (T j).po, .int .i64 (T j).st, .int .i64 (T j).un] 86)) w1.heap.size T j) := tcB10_new _ _ _
      have B2 : Hid (Below w.heap.size w (w1.alloc (.cells #[.int .i64 j, .int .i64 (T j).ve, .int .i64 (T j).pr, .int .i64 (T j).ia, .int .i64 (T j).ip, .int .i64 (T j).fa, .int .i64 (T j).fp, .int .i64 (T j).po, .int .i64 (T j).st, .int .i64 (T j).un] 86))) := B1.out.alloc B1.out.size _
      have O2 : Hid ((w1.alloc (.cells #[.int .i64 j, .int .i64 (T j).ve, .int .i64 (T j).pr, .int .i64 (T j).ia, .int .i64 (T j).ip, .int .i64 (T j).fa, .int .i64 (T j).fp, .int .i64 (T j).po, .int .i64 (T j).st, .int .i64 (T j).un] 86)).ownsRow w.heap.size 86 10 u3 (newsN T D j).length (slCs T (newsN T D j))) := O1.out.alloc _
      generalize w1.alloc (.cells #[.int .i64 j, .int .i64 (T j).ve, .int .i64 (T j).pr, .int .i64 (T j).ia, .int .i64 (T j).ip, .int .i64 (T j).fa, .int .i64 (T j).fp, .int .i64 (T j).po, .int .i64 (T j).st, .int .i64 (T j).un] 86) = w2 at *
      generalize w1.heap.size = V at *
      clear B1 O1
      have t1 := (HH.out.below B2.out).c1
      have hlk := (HH.out.below B2.out.drew).m.look hlt
      have a1 := A1.out.c1
      obtain ⟨od, hod⟩ : ∃ od, D j = od := ⟨_, rfl⟩
      rw [hod] at hlk
      have HOD : Hid (D j = od) := hod
      clear hod
      by_cases hve : (T j).ve = od
      · have hq : ((T j).ve == od) = true := by simp [hve]
        have HN : Hid (newsN T D (j + 1) = newsN T D j) := newsN_no (by rw [hve, HOD.out])
        clear hve
        go_region
        go_wp2_with fail
        go_roundw
        case rel => exact ⟨j + 1, by omega, by go_num, by rw [HN.out]; exact newsO_below O2.out (Below.refl _ _).drew, B2.out.drew⟩
        case measure => simp [intOf]; omega
      · have hq : ((T j).ve == od) = false := beq_eq_false_iff_ne.2 hve
        have HN : Hid (newsN T D (j + 1) = newsN T D j ++ [j]) := newsN_yes (by rw [HOD.out]; exact hve)
        clear hve
        have A3 : Hid (TcB10 w2.drew V T j) := A1.out.below (Below.refl _ _).drew
        have B3 : Hid (Below w.heap.size w w2.drew) := B2.out.drew
        have O3 : Hid (w2.drew.ownsRow w.heap.size 86 10 u3 (newsN T D j).length (slCs T (newsN T D j))) := newsO_below O2.out (Below.refl _ _).drew
        clear A1 B2 O2
        go_region
        generalize w2.drew = w3 at *
        have v0 := A3.out.c0
        have v1 := A3.out.c1
        have v2 := A3.out.c2
        have v3 := A3.out.c3
        have v4 := A3.out.c4
        have v5 := A3.out.c5
        have v6 := A3.out.c6
        have v7 := A3.out.c7
        have v8 := A3.out.c8
        have v9 := A3.out.c9
        have N4 : Hid (∀ q u, (slC T j)[q]? = some u → (w3.alloc (.cells #[.int .i64 j, .int .i64 (T j).ve, .int .i64 (T j).pr, .int .i64 (T j).ia, .int .i64 (T j).ip, .int .i64 (T j).fa, .int .i64 (T j).fp, .int .i64 (T j).po, .int .i64 (T j).st, .int .i64 (T j).un] 86)).cell? (Addr.add ⟨w3.heap.size, 0, none⟩ q) = some u) := fun q u hu => by
          rw [tadd, Nat.zero_add, nw]; simpa [slC] using hu
        go_wp2_with (at_builtin; refine wpList_append_own _ rfl _ _ 109 rfl w.heap.size 86 i0 _ 10 80 Tryd.underlying109 hi hz0 hz1 hz2 rfl (by decide) u3 (newsN T D j).length (slCs T (newsN T D j)) rfl (O3.out.alloc _) ⟨w3.heap.size, 0, none⟩ 1 1 (slC T j) rfl rfl N4.out (slC_one T j) (by unfold maxLen; omega) (by omega) (by have := B3.out.size; simp; omega) ?_)
        intro vv w5 hO5 hg5 _
        have O5 : Hid (w5.ownsRow w.heap.size 86 10 vv ((newsN T D j).length + 1) (slCs T (newsN T D j) ++ slC T j)) := hO5
        have B5 : Hid (Below w.heap.size w w5) := (B3.out.alloc B3.out.size _).grown hg5 (by have := B3.out.size; simp; omega) (fun q hq => (O3.out.lt _ hq).1)
        clear hO5 hg5 N4 v0 v1 v2 v3 v4 v5 v6 v7 v8 v9
        go_wp2_with fail
        go_roundw
        case rel =>
          refine ⟨j + 1, by omega, by go_num, ?_, B5.out⟩
          have := O5.out
          unfold NewsV
          rw [HN.out, List.length_append, slCs_app, slCs, slCs, List.append_nil]
          exact this
        case measure => simp [intOf]; omega
    · obtain rfl : j = 32 := by omega
      go_wp2_with fail
      go_ret
      exact ⟨⟨_, rfl, HO.out⟩, HB.out⟩
end Go.Proofs.YtjfhompbeengmaaDoor

namespace Go.Proofs.YtjfhompbeengmaaDoor
open Go.RowKit Go.Maps

set_option maxRecDepth 100000 in
set_option maxHeartbeats 4000000 in
theorem tnew_any (b : Nat) (w : World) :
    Calls Tryd.prog 23 #[.pointer (some ⟨b, 0, none⟩)] w fun e w' => (∃ X M, e = .returned (.pointer (some ⟨X, 0, none⟩)) ∧ w.heap.size ≤ X ∧ w.heap.size ≤ M ∧ Tel w' X b M 0 (fun _ => 0) 0) ∧ Below w.heap.size w w' := by
  have hmm := @run_makeMap Tryd.prog
  go_enter Tryd.func23, Tryd.ntmps23
  go_wp2_with fail
  go_ret
  have hz : (w.alloc (.map #[] 0)).heap.size = w.heap.size + 1 := by simp
  have n1 := nw (w.alloc (.map #[] 0)) #[.pointer (some ⟨b, 0, none⟩), .map (some w.heap.size), .int .i64 0] 71
  rw [hz] at n1
  refine ⟨⟨w.heap.size + 1, w.heap.size, rfl, by omega, by omega, ⟨(n1 0).trans rfl, (n1 1).trans rfl, (n1 2).trans rfl, ?_, (told_new w).below (aB _ _), by omega, by omega⟩⟩, t2 (aB _ _) (aB _ _)⟩
  rw [← hz]
  exact frozen_of_row _ _ _ _ _ (heap_alloc_new _ _)
abbrev fillFn (V : Nat) : Value := .func (.func 81) #[] #[.pointer (some ⟨V, 0, none⟩)]
set_option maxRecDepth 100000 in
set_option maxHeartbeats 2000000 in
theorem fillF_any (V : Nat) (T : Tb) (r s : Nat) (w : World) (V0 : w.cell? ⟨V, 0, none⟩ = some (.int .i64 s)) :
    Calls Tryd.prog 81 #[.agg #[.int .i64 r, .int .i64 (T r).ve, .int .i64 (T r).pr, .int .i64 (T r).ia, .int .i64 (T r).ip, .int .i64 (T r).fa, .int .i64 (T r).fp, .int .i64 (T r).po, .int .i64 (T r).st, .int .i64 (T r).un], .pointer (some ⟨V, 0, none⟩)] w fun e w' => e = .returned (.bool (r == s)) ∧ Below w.heap.size w w' := by
  have hvl := tlt V0
  simp only at hvl
  go_enter Tryd.func81, Tryd.ntmps81
  go_wp2_with fail
  go_ret
  refine ⟨?_, aB _ _⟩
  have : ((r : Int) == (s : Int)) = (r == s) := by
    by_cases h : r = s
    · subst h; simp
    · rw [beq_eq_false_iff_ne.2 h, beq_eq_false_iff_ne.2 (by omega)]
  rw [← this]
  rfl
set_option maxRecDepth 100000 in
set_option maxHeartbeats 2000000 in
theorem findex_any (V Z : Nat) (T : Tb) (L : List Nat) (s : Nat) (w : World) (V0 : w.cell? ⟨V, 0, none⟩ = some (.int .i64 s)) (R : RowsB w Z T L) (hl : L.length ≤ 8) :
    Calls Tryd.prog 88 #[.slice (some ⟨Z, 0, none⟩) L.length 8, fillFn V] w fun e w' => (∃ k : Int, e = .returned (.int .i64 k) ∧ decide (k ≥ 0) = decide (s ∈ L)) ∧ Below w.heap.size w w' := by
  have HV : Hid (w.cell? ⟨V, 0, none⟩ = some (.int .i64 s)) := V0
  have HR : Hid (RowsB w Z T L) := R
  clear V0 R
  go_enter Tryd.func88, Tryd.ntmps88
  go_wp2_with fail
  go_loopw [8] (fun t wr => ∃ j : Nat, j ≤ L.length ∧ t = .int .i64 j ∧ ¬ s ∈ L.take j ∧ Below w.heap.size w wr) (fun t _ => L.length - (intOf t).toNat)
  case atStart => exact ⟨0, by omega, rfl, by simp, Below.refl _ _⟩
  case round =>
    obtain ⟨j, hj, rfl, hno, hbr⟩ := hrel
    have HN : Hid (¬ s ∈ L.take j) := hno
    have HB : Hid (Below w.heap.size w wr) := hbr
    clear hno hbr
    by_cases hlt : j < L.length
    · have i0 : (0 : Int) ≤ (j : Int) := by omega
      have i1 : (j : Int) < (L.length : Int) := by omega
      obtain ⟨r, hr⟩ : ∃ r, L[j]? = some r := ⟨_, List.getElem?_eq_getElem hlt⟩
      have HJ : Hid (L[j]? = some r) := hr
      have R1 := HR.out.below HB.out
      have c0 := R1.at' (k := 0) hr (by omega)
      have c1 := R1.at' (k := 1) hr (by omega)
      have c2 := R1.at' (k := 2) hr (by omega)
      have c3 := R1.at' (k := 3) hr (by omega)
      have c4 := R1.at' (k := 4) hr (by omega)
      have c5 := R1.at' (k := 5) hr (by omega)
      have c6 := R1.at' (k := 6) hr (by omega)
      have c7 := R1.at' (k := 7) hr (by omega)
      have c8 := R1.at' (k := 8) hr (by omega)
      have c9 := R1.at' (k := 9) hr (by omega)
      simp only [Ce.get, Nat.add_zero] at c0 c1 c2 c3 c4 c5 c6 c7 c8 c9
      clear R1 hr
      go_wp2_with fail
      refine (fillF_any V T r s _ (tk HB.out HV.out)).mono ?_
      rintro e w2 ⟨rfl, hb2⟩
      have HB2 : Hid (Below w.heap.size w w2) := t2 HB.out hb2
      clear hb2 c0 c1 c2 c3 c4 c5 c6 c7 c8 c9
      rcases hq : (r == s) with _ | _
      · have HN2 : Hid (¬ s ∈ L.take (j + 1)) := by
          show ¬ _
          rw [List.take_add_one, HJ.out, List.mem_append]
          rintro (h | h)
          · exact HN.out h
          · simp at h; subst h; simp at hq
        clear hq
        go_wp2_with fail
        go_roundw
        case rel => exact ⟨j + 1, by omega, by go_num, HN2.out, HB2.out⟩
        case measure => simp [intOf]; omega
      · have HF : Hid (s ∈ L) := by
          have e := eq_of_beq hq
          subst e
          exact List.mem_of_getElem? HJ.out
        clear hq
        go_wp2_with fail
        go_ret
        exact ⟨⟨_, rfl, by rw [decide_eq_true HF.out, decide_eq_true_iff]; omega⟩, HB2.out⟩
    · obtain rfl : j = L.length := by omega
      rw [List.take_length] at HN
      go_wp2_with fail
      go_ret
      exact ⟨⟨_, rfl, by rw [decide_eq_false HN.out]; rfl⟩, HB.out⟩
set_option maxRecDepth 100000 in
set_option maxHeartbeats 2000000 in
theorem fcontains_any (V Z : Nat) (T : Tb) (L : List Nat) (s : Nat) (w : World) (V0 : w.cell? ⟨V, 0, none⟩ = some (.int .i64 s)) (R : RowsB w Z T L) (hl : L.length ≤ 8) :
    Calls Tryd.prog 80 #[.slice (some ⟨Z, 0, none⟩) L.length 8, fillFn V] w fun e w' => e = .returned (.bool (decide (s ∈ L))) ∧ Below w.heap.size w w' := by
  have HV : Hid (w.cell? ⟨V, 0, none⟩ = some (.int .i64 s)) := V0
  have HR : Hid (RowsB w Z T L) := R
  clear V0 R
  go_enter Tryd.func80, Tryd.ntmps80
  go_wp2_with fail
  refine (findex_any V Z T L s _ HV.out HR.out hl).mono ?_
  rintro e w2 ⟨⟨k, rfl, hk⟩, hb2⟩
  have HB2 : Hid (Below w.heap.size w w2) := hb2
  have HK : Hid (decide (k ≥ 0) = decide (s ∈ L)) := hk
  clear hb2 hk
  go_wp2_with fail
  all_goals go_ret
  all_goals refine ⟨?_, HB2.out⟩
  all_goals rw [← HK.out]
  all_goals rfl
end Go.Proofs.YtjfhompbeengmaaDoor

namespace Go.Proofs.YtjfhompbeengmaaDoor
open Go.RowKit Go.Maps

/-- the cursor in memory. -/
def curOf (w : World) (X : Nat) : Nat := match w.cell? ⟨X, 2, none⟩ with | some (.int _ x) => x.toNat | _ => 0
def lenV : Value → Nat
  | .slice _ n _ => n
  | _ => 0
/-- how far a batch is from full. -/
def fillM (X c : Nat) (v : Value) (w : World) : Nat := if 8 ≤ lenV v then 0 else 33 - (curOf w X + 32 - c) % 32
theorem fillM_at {w : World} {X b M n : Nat} {D : To} {c j l cap : Nat} {p : Option Addr} (H : Tel w X b M n D ((c + j) % 32)) (hc : c < 32) (hj : j < 32) (hl : l < 8) : fillM X c (.slice p l cap) w = 33 - j := by
  unfold fillM curOf lenV
  rw [H.c2]
  simp only
  rw [if_neg (by omega)]
  have : (Int.toNat (((c + j) % 32 : Nat) : Int)) = (c + j) % 32 := Int.toNat_natCast _
  rw [this]
  omega
theorem fillM_full {w : World} {X c l cap : Nat} {p : Option Addr} (hl : 8 ≤ l) : fillM X c (.slice p l cap) w = 0 := by
  unfold fillM lenV
  simp only
  rw [if_pos hl]
theorem wk_short {B : List Nat} {c j : Nat} (h : ∀ i, i < j → (wk B c i).length < 8) (hj : (wk B c j).length < 8) : j < 32 := by
  rcases Nat.lt_trichotomy j 32 with h1 | h1 | h1
  · exact h1
  · subst h1; have := wk_full B c; omega
  · have := h 32 h1; have := wk_full B c; omega
/-- how fill stands behind j slots. -/
structure Fi (w wr : World) (X b M n Z : Nat) (low : Int) (T : Tb) (D : To) (B : List Nat) (c j : Nat) : Prop where
  r : RowsB wr Z T (wk B c j)
  s : ∀ i, i < j → (wk B c i).length < 8
  h : Tel wr X b M n D ((c + j) % 32)
  k : Tab wr b low T
  g : Chg2 X Z w wr
theorem Fi.below {w wr wr' : World} {X b M n Z : Nat} {low : Int} {T : Tb} {D : To} {B : List Nat} {c j : Nat} (f : Fi w wr X b M n Z low T D B c j) (hb : Below wr.heap.size wr wr') : Fi w wr' X b M n Z low T D B c j :=
  ⟨f.r.below hb, f.s, f.h.below hb, f.k.below hb, f.g.then hb⟩
/-- the same in the middle of a round. -/
structure Fi1 (w wr : World) (X b M n Z V : Nat) (low : Int) (T : Tb) (D : To) (L : List Nat) (cu : Nat) : Prop where
  r : RowsB wr Z T L
  h : Tel wr X b M n D ((cu + 1) % 32)
  k : Tab wr b low T
  g : Chg2 X Z w wr
  a : TcB10 wr V T cu
theorem Fi1.below {w wr wr' : World} {X b M n Z V : Nat} {low : Int} {T : Tb} {D : To} {L : List Nat} {cu : Nat} (f : Fi1 w wr X b M n Z V low T D L cu) (hb : Below wr.heap.size wr wr') : Fi1 w wr' X b M n Z V low T D L cu :=
  ⟨f.r.below hb, f.h.below hb, f.k.below hb, f.g.then hb, f.a.below hb⟩
theorem Tel.neTab {w : World} {X b M n : Nat} {D : To} {c : Nat} {low : Int} {T : Tb} (h : Tel w X b M n D c) (t : Tab w b low T) : b ≠ X := fun e => by
  have h1 := h.c0
  have h2 := t.low
  rw [e] at h2
  rw [h1] at h2
  cases h2
theorem fi1_of {w wr : World} {X b M n Z : Nat} {low : Int} {T : Tb} {D : To} {L : List Nat} {cu c' : Nat} (r : RowsB wr Z T L) (h : Tel wr X b M n D c') (k : Tab wr b low T) (g : Chg2 X Z w wr) (h1 : X ≠ Z) :
    Fi1 w ((wr.setCell ⟨X, 2, none⟩ (.int .i64 (((cu + 1) % 32 : Nat) : Int))).alloc (.cells #[.int .i64 cu, .int .i64 (T cu).ve, .int .i64 (T cu).pr, .int .i64 (T cu).ia, .int .i64 (T cu).ip, .int .i64 (T cu).fa, .int .i64 (T cu).fp, .int .i64 (T cu).po, .int .i64 (T cu).st, .int .i64 (T cu).un] 86)) X b M n Z wr.heap.size low T D L cu := by
  have A := tcB10_new (wr.setCell ⟨X, 2, none⟩ (.int .i64 (((cu + 1) % 32 : Nat) : Int))) T cu
  rw [show (wr.setCell ⟨X, 2, none⟩ (.int .i64 (((cu + 1) % 32 : Nat) : Int))).heap.size = wr.heap.size from by simp [World.setCell]] at A
  exact ⟨(r.chg (Chg.set X 2 wr _) (fun e => h1 e.symm)).below (aB _ _), (h.cur (c' := (cu + 1) % 32) (by omega)).below (aB _ _), (k.chg (Chg.set X 2 wr _) (h.neTab k)).below (aB _ _), (g.on (Chg.set X 2 wr _) (.inl rfl)).then (aB _ _), A⟩
theorem fill_meas {wr w' : World} {X b M n : Nat} {D : To} {c j l l' : Nat} {p q : Option Addr} {cap cap' : Nat} (H : Tel wr X b M n D ((c + j) % 32)) (H' : Tel w' X b M n D ((c + (j + 1)) % 32)) (hc : c < 32) (hj : j < 32) (hl : l < 8) {l2 : Nat} (e : l2 = l') (hs : l2 < 8 → j + 1 < 32) : fillM X c (.slice q l' cap') w' < fillM X c (.slice p l cap) wr := by
  rw [fillM_at H hc hj hl]
  by_cases h8 : l' < 8
  · rw [fillM_at H' hc (hs (by omega)) h8]; omega
  · rw [fillM_full (by omega)]; omega
set_option maxRecDepth 100000 in
set_option maxHeartbeats 4000000 in
theorem fill_any (X b M n c Z : Nat) (low : Int) (T : Tb) (D : To) (B : List Nat) (w : World) (H : Tel w X b M n D c) (t : Tab w b low T) (R : RowsB w Z T B) (hX : X ≠ Z) (hM : M ≠ Z) (hbZ : b ≠ Z) :
    Calls Tryd.prog 64 #[.pointer (some ⟨X, 0, none⟩), .slice (some ⟨Z, 0, none⟩) B.length 8] w fun e w' => ∃ j, Full B c j ∧ e = .returned (.slice (some ⟨Z, 0, none⟩) (wk B c j).length 8) ∧ RowsB w' Z T (wk B c j) ∧ Tel w' X b M n D ((c + j) % 32) ∧ Chg2 X Z w w' := by
  have HH : Hid (Tel w X b M n D c) := H
  have HT : Hid (Tab w b low T) := t
  have HR : Hid (RowsB w Z T B) := R
  have HN : Hid (X ≠ Z ∧ M ≠ Z ∧ b ≠ Z) := ⟨hX, hM, hbZ⟩
  have hc32 := H.lt
  have F0 : Hid (Fi w w X b M n Z low T D B c 0) := ⟨R, fun i hi => by omega, by rw [Nat.add_zero, Nat.mod_eq_of_lt hc32]; exact H, t, Chg2.of (Below.refl _ _)⟩
  clear H t R hX hM hbZ HH HT HR
  go_enter Tryd.func64, Tryd.ntmps64
  go_wp2_with fail
  go_loopw [1] (fun v wr => ∃ j : Nat, v = .slice (some ⟨Z, 0, none⟩) (wk B c j).length 8 ∧ Fi w wr X b M n Z low T D B c j) (fun v wr => fillM X c v wr)
  case atStart => exact ⟨0, rfl, F0.out⟩
  case round =>
    obtain ⟨j, rfl, hf⟩ := hrel
    have HF : Hid (Fi w wr X b M n Z low T D B c j) := hf
    clear hf F0
    by_cases hlt : (wk B c j).length < 8
    · have hj32 : j < 32 := wk_short HF.out.s hlt
      have hl8 : ((wk B c j).length : Int) < 8 := by omega
      have hM0 : Hid (fillM X c (.slice (some ⟨Z, 0, none⟩) (wk B c j).length 8) wr = 33 - j) := fillM_at HF.out.h hc32 hj32 hlt
      obtain ⟨cu, hcu⟩ : ∃ cu, cu = (c + j) % 32 := ⟨_, rfl⟩
      have HCU : Hid (cu = (c + j) % 32) := hcu
      have hcl : cu < 32 := by omega
      have c2 := HF.out.h.c2
      have f2 := HF.out.h.f2
      rw [← hcu] at c2
      have hcx := tlt c2
      simp only at hcx
      have i0 : (0 : Int) ≤ (cu : Int) := by omega
      have i1 : (cu : Int) < 32 := by omega
      clear hcu
      go_wp2_with fail
      refine (tcell_any X b low T cu wr HF.out.h.c0 HF.out.k hcl).mono ?_
      rintro e w1 ⟨rfl, hb1⟩
      have FB : Hid (Fi w w1 X b M n Z low T D B c j) := HF.out.below hb1
      have d2 := FB.out.h.c2
      have e2 := FB.out.h.f2
      rw [← HCU.out] at d2
      have hcx1 := tlt d2
      simp only at hcx1
      clear hb1 c2 f2
      unfold cellV
      go_wp2_with fail
      rw [show ((cu : Int) + 1) % 32 = (((cu + 1) % 32 : Nat) : Int) from by omega]
      have F1 : Hid (Fi1 w ((w1.setCell ⟨X, 2, none⟩ (.int .i64 (((cu + 1) % 32 : Nat) : Int))).alloc (.cells #[.int .i64 cu, .int .i64 (T cu).ve, .int .i64 (T cu).pr, .int .i64 (T cu).ia, .int .i64 (T cu).ip, .int .i64 (T cu).fa, .int .i64 (T cu).fp, .int .i64 (T cu).po, .int .i64 (T cu).st, .int .i64 (T cu).un] 86)) X b M n Z w1.heap.size low T D (wk B c j) cu) := fi1_of FB.out.r FB.out.h FB.out.k FB.out.g HN.out.1
      clear d2 e2 FB
      generalize (w1.setCell ⟨X, 2, none⟩ (.int .i64 (((cu + 1) % 32 : Nat) : Int))).alloc (.cells #[.int .i64 cu, .int .i64 (T cu).ve, .int .i64 (T cu).pr, .int .i64 (T cu).ia, .int .i64 (T cu).ip, .int .i64 (T cu).fa, .int .i64 (T cu).fp, .int .i64 (T cu).po, .int .i64 (T cu).st, .int .i64 (T cu).un] 86) = W0 at *
      generalize w1.heap.size = V at *
      refine (fcontains_any V Z T (wk B c j) cu W0 F1.out.a.c0 F1.out.r (by omega)).mono ?_
      rintro e w2 ⟨rfl, hb2⟩
      have F2 : Hid (Fi1 w w2 X b M n Z V low T D (wk B c j) cu) := F1.out.below hb2
      clear hb2 F1
      by_cases hm : cu ∈ wk B c j
      · have HW : Hid (wk B c (j + 1) = wk B c j) := wk_in (by rw [← HCU.out]; exact hm)
        have hd : decide (cu ∈ wk B c j) = true := decide_eq_true hm
        rw [hd]
        clear hd hm
        have F3 : Hid (Fi w w2 X b M n Z low T D B c (j + 1)) := by
          have hs := HF.out.s
          refine ⟨by rw [HW.out]; exact F2.out.r, fun i hi => ?_, ?_, F2.out.k, F2.out.g⟩
          · by_cases e : i = j
            · rw [e]; exact hlt
            · exact hs i (by omega)
          · have := F2.out.h
            rw [show (c + (j + 1)) % 32 = (cu + 1) % 32 from by rw [HCU.out]; omega]
            exact this
        clear F2
        go_wp2_with fail
        go_roundw
        case rel => exact ⟨j + 1, by rw [HW.out], F3.out⟩
        case measure => exact fill_meas HF.out.h F3.out.h hc32 hj32 hlt (by rw [HW.out]) (wk_short F3.out.s)
      · have HW : Hid (wk B c (j + 1) = wk B c j ++ [cu]) := by show _ = _; rw [wk_out (by rw [← HCU.out]; exact hm), ← HCU.out]
        have hd : decide (cu ∈ wk B c j) = false := decide_eq_false hm
        rw [hd]
        clear hd hm
        have v0 := F2.out.a.c0
        have v1 := F2.out.a.c1
        have v2 := F2.out.a.c2
        have v3 := F2.out.a.c3
        have v4 := F2.out.a.c4
        have v5 := F2.out.a.c5
        have v6 := F2.out.a.c6
        have v7 := F2.out.a.c7
        have v8 := F2.out.a.c8
        have v9 := F2.out.a.c9
        have BA : Hid (Below w2.heap.size w2 (w2.alloc (.cells #[.int .i64 cu, .int .i64 (T cu).ve, .int .i64 (T cu).pr, .int .i64 (T cu).ia, .int .i64 (T cu).ip, .int .i64 (T cu).fa, .int .i64 (T cu).fp, .int .i64 (T cu).po, .int .i64 (T cu).st, .int .i64 (T cu).un] 86))) := aB _ _
        obtain ⟨w4, happ, hr4, hc4⟩ := rows_append (F2.out.r.below BA.out) ⟨w2.heap.size, 0, none⟩ cu 1 109 (fun q u hu => by rw [tadd, Nat.zero_add, nw]; simpa [slC] using hu) (by omega)
        have F3 : Hid (Fi w w4 X b M n Z low T D B c (j + 1)) := by
          have hs := HF.out.s
          have hn := HN.out
          refine ⟨by rw [HW.out]; exact hr4, fun i hi => ?_, ?_, (F2.out.k.below BA.out).chg hc4 hn.2.2, (F2.out.g.then BA.out).on hc4 (.inr (.inl rfl))⟩
          · by_cases e : i = j
            · rw [e]; exact hlt
            · exact hs i (by omega)
          · have := (F2.out.h.below BA.out).chg hc4 hn.1 hn.2.1
            rw [show (c + (j + 1)) % 32 = (cu + 1) % 32 from by rw [HCU.out]; omega]
            exact this
        clear F2 BA hr4 hc4
        go_wp2_with (at_builtin; refine wpList_append_eq rfl _ _ 109 rfl _ _ _ _ rfl rfl happ ?_)
        go_roundw
        case rel => exact ⟨j + 1, by rw [HW.out, List.length_append]; rfl, F3.out⟩
        case measure => exact fill_meas HF.out.h F3.out.h hc32 hj32 hlt (by rw [HW.out, List.length_append]; rfl) (wk_short F3.out.s)
    · have hlt' : ¬ ((wk B c j).length : Int) < 8 := by omega
      have HU : Hid (Full B c j) := ⟨HF.out.s, by omega⟩
      go_wp2_with fail
      go_ret
      exact ⟨j, HU.out, rfl, HF.out.r, HF.out.h, HF.out.g⟩
end Go.Proofs.YtjfhompbeengmaaDoor

namespace Go.Proofs.YtjfhompbeengmaaDoor
open Go.RowKit Go.Maps

theorem ToldM.put {w : World} {M n : Nat} {D : To} (h : ToldM w M n D) {s : Nat} {v : Int} (hs : s < 32) (h0 : 0 ≤ v) (h1 : v ≤ 1000000000) (hn : n ≤ 1000000000) :
    ∃ w', (Instr.mapUpdate 69 (.map (some M)) (.int .i64 s) (.int .i64 v)).run Tryd.prog w = .ok () w' ∧ ToldM w' M (n + 1) (fun k => if k = s then v else D k) ∧ Chg M w w' := by
  obtain ⟨d, e1, e2⟩ := h
  have him := e1.isMap
  obtain ⟨w', hrun, ho, hg⟩ := e1.update ikey Tryd.underlying69 (by unfold maxLen; omega) (keyOf_int_mk Tryd.underlying3 (wfI (x := s) (by omega) (by omega))) (plainElem_int Tryd.underlying3 (wfI (x := v) (by omega) h1))
  refine ⟨w', hrun, ⟨_, ho, fun k hk => ?_⟩, chg_grown hg⟩
  by_cases e : k = s
  · subst e
    rw [atKey_put_same him (by simp [WideAt.IsKeyLit])]
    simp only [if_true]
  · rw [atKey_put_other (by intro h; injection h with _ h2; omega)]
    simp only [if_neg e]
    exact e2 k hk
theorem toldD_next {T : Tb} {D : To} {L : List Nat} {j s : Nat} (h : L[j]? = some s) : toldD T D (L.take (j + 1)) = fun k => if k = s then (T s).ve else toldD T D (L.take j) k := by
  funext k
  unfold toldD
  rw [List.take_add_one, h]
  by_cases e : k = s
  · subst e; simp
  · by_cases hm : k ∈ L.take j <;> simp [hm, e]
theorem toldD_zero (T : Tb) (D : To) (L : List Nat) : toldD T D (L.take 0) = D := by
  funext k; simp [toldD]
theorem Chg2.fresh {m g z : Nat} {w v v' : World} (h : Chg2 m g w v) (k : Chg2 m z v v') (hz : w.heap.size ≤ z) : Chg2 m g w v' :=
  ⟨k.os.trans h.os, k.tape.trans h.tape, k.output.trans h.output, Nat.le_trans h.size k.size, fun i hi h1 h2 => (k.block i (Nat.lt_of_lt_of_le hi h.size) h1 (by omega)).trans (h.block i hi h1 h2)⟩
theorem Tel.put {w w' : World} {X b M n : Nat} {D : To} {c s : Nat} {v : Int} (h : Tel w X b M n D c) (hm : ToldM w' M (n + 1) (fun k => if k = s then v else D k)) (hc : Chg M w w') : Tel w' X b M (n + 1) (fun k => if k = s then v else D k) c :=
  ⟨hc.keeps h.ne h.c0, hc.keeps h.ne h.c1, hc.keeps h.ne h.c2, (frozen_of_block (hc.block X (tlt h.c0) h.ne)).trans h.f2, hm, h.ne, h.lt⟩
theorem fill_len (X b M n c Z k : Nat) (low : Int) (T : Tb) (D : To) (B : List Nat) (w : World) (hk : k = B.length) (H : Tel w X b M n D c) (t : Tab w b low T) (R : RowsB w Z T B) (hX : X ≠ Z) (hM : M ≠ Z) (hbZ : b ≠ Z) (hB : B = (newsL T D).take 8 := by rfl) :
    Calls Tryd.prog 64 #[.pointer (some ⟨X, 0, none⟩), .slice (some ⟨Z, 0, none⟩) k 8] w fun e w' => ∃ L c', Nx T D c L c' ∧ e = .returned (.slice (some ⟨Z, 0, none⟩) 8 8) ∧ RowsB w' Z T L ∧ Tel w' X b M n D c' ∧ Chg2 X Z w w' := by
  subst hk
  refine (fill_any X b M n c Z low T D B w H t R hX hM hbZ).mono ?_
  rintro e w' ⟨j, hf, rfl, h1, h2, h3⟩
  have h8 := hf.len (by rw [hB]; exact take8 _)
  subst hB
  exact ⟨_, _, ⟨j, hf, rfl, rfl⟩, by rw [h8], h1, h2, h3⟩
/-- how Next stands behind j cells that were put down. -/
structure Nj (w wr : World) (X b M n Z : Nat) (T : Tb) (D : To) (L : List Nat) (c' j : Nat) : Prop where
  h : Tel wr X b M (n + j) (toldD T D (L.take j)) c'
  r : RowsB wr Z T L
  g : Chg2 X M w wr
theorem Nj.below {w wr wr' : World} {X b M n Z : Nat} {T : Tb} {D : To} {L : List Nat} {c' j : Nat} (f : Nj w wr X b M n Z T D L c' j) (hb : Below wr.heap.size wr wr') : Nj w wr' X b M n Z T D L c' j :=
  ⟨f.h.below hb, f.r.below hb, f.g.then hb⟩
theorem make8 (w : World) (T : Tb) : ∃ w', (Instr.makeSlice 109 (.int .i64 0) (.int .i64 8)).run Tryd.prog w = .ok (.slice (some ⟨w.heap.size, 0, none⟩) 0 8) w' ∧ RowsB w' w.heap.size T [] ∧ Below w.heap.size w w' := by
  obtain ⟨i0, hi, hz0, hz1, hz2⟩ := info_parts Tryd.infoCell
  have h := run_makeSlice (P := Tryd.prog) w 109 86 i0 _ Tryd.underlying109 hi hz0 .i64 .i64 0 8 (by omega) (by omega) (by rw [hz1]; decide) (by rw [hz2]; decide) (by omega)
  refine ⟨_, h, ⟨_, heap_alloc_new _ _, ?_, fun j s hj => by simp at hj⟩, aB _ _⟩
  rw [size_madeCells, hz1]
  rfl
theorem slCs_take {T : Tb} {L : List Nat} {k q : Nat} {u : Value} (h : (slCs T (L.take k))[q]? = some u) : (slCs T L)[q]? = some u := by
  have e : slCs T L = slCs T (L.take k) ++ slCs T (L.drop k) := by rw [← slCs_app, List.take_append_drop]
  rw [e, List.getElem?_append_left (List.getElem?_eq_some_iff.1 h).1]
  exact h
/-- the first eight of what is new, as they lie. -/
theorem NewsV.rows {w : World} {base : Nat} {T : Tb} {L : List Nat} {v : Value} (h : NewsV w base T L v) : (L = [] ∧ v = .slice none 0 0) ∨ ∃ g cap, v = .slice (some ⟨g, 0, none⟩) L.length cap ∧ L.length ≤ cap ∧ g < w.heap.size ∧ ∀ j u, (slCs T (L.take 8))[j]? = some u → w.cell? (Addr.add ⟨g, 0, none⟩ j) = some u := by
  obtain ⟨h1, h2⟩ := h
  rcases h2 with ⟨rfl, h0⟩ | ⟨g, cap, cur, rfl, _, hh, hc, _, _, ht⟩
  · exact .inl ⟨List.length_eq_zero_iff.1 h0, rfl⟩
  · refine .inr ⟨g, cap, rfl, hc, (Array.getElem?_eq_some_iff.1 hh).1, fun j u hu => ?_⟩
    have h3 := slCs_take hu
    have h4 := (List.getElem?_eq_some_iff.1 h3).1
    rw [tadd, Nat.zero_add, cell_of_row w g _ _ _ _ hh]
    rw [← ht, List.getElem?_take] at h3
    split at h3
    · rw [Array.getElem?_toList] at h3; exact h3
    · cases h3
set_option maxRecDepth 100000 in
set_option maxHeartbeats 4000000 in
theorem tnext_any (X b M n c m : Nat) (low : Int) (T : Tb) (D : To) (w : World) (H : Tel w X b M n D c) (t : Tab w b low T) (hv : Vers T m) (hm : m ≤ 1000000000) (hn : n ≤ 100000000) :
    Calls Tryd.prog 46 #[.pointer (some ⟨X, 0, none⟩)] w fun e w' => ∃ Z L c', Nx T D c L c' ∧ e = .returned (.slice (some ⟨Z, 0, none⟩) 8 8) ∧ w.heap.size ≤ Z ∧ RowsB w' Z T L ∧ Tel w' X b M (n + 8) (toldD T D L) c' ∧ Chg2 X M w w' := by
  have HH : Hid (Tel w X b M n D c) := H
  have HT : Hid (Tab w b low T) := t
  have HV : Hid (Vers T m) := hv
  clear H t hv
  go_enter Tryd.func46, Tryd.ntmps46
  go_wp2_with fail
  refine (tnews_any X b M n c low T D w HH.out HT.out).mono ?_
  rintro e w1 ⟨⟨v, rfl, hv⟩, hb1⟩
  have B1 : Hid (Below w.heap.size w w1) := hb1
  have hl := newsL_len T D
  have HL : Hid (((newsL T D).take 8).length = min 8 (newsL T D).length) := by show _ = _; rw [List.length_take]
  obtain ⟨w2, hmk, hr2, hb2⟩ := make8 w1 T
  have R2 : Hid (RowsB w2 w1.heap.size T []) := hr2
  have B2 : Hid (Below w.heap.size w w2) := t2 hb1 hb2
  have HZ : Hid (w.heap.size ≤ w1.heap.size) := hb1.size
  have hnv := hv.rows
  clear hv
  rcases hnv with ⟨h0, rfl⟩ | ⟨g, cap, rfl, hcap, hg, hrow⟩
  · have HE : Hid ((newsL T D).take 8 = []) := by show _ = _; rw [h0]; rfl
    have R3 : Hid (RowsB w2 w1.heap.size T ((newsL T D).take 8)) := by rw [HE.out]; exact R2.out
    have HK : Hid (0 = ((newsL T D).take 8).length) := by rw [HE.out]; rfl
    obtain ⟨w3, hw3⟩ : ∃ w3, w3 = w2 := ⟨_, rfl⟩
    have B3 : Hid (Below w.heap.size w w3) := by rw [hw3]; exact B2.out
    rw [← hw3] at hmk R3
    clear hw3 h0 R2 B2 B1 hb1 hb2 hr2
    go_wp2_with fail
    refine (fill_len X b M n c w1.heap.size _ low T D ((newsL T D).take 8) w3 HK.out (HH.out.below B3.out) (HT.out.below B3.out) R3.out (by have h := tlt HH.out.c0; have := HZ.out; simp only at h; omega) (by have := HH.out.m.lt; have := HZ.out; omega) (by have := HT.out.lt; have := HZ.out; omega)).mono ?_
    rintro e w4 ⟨L, c', hx, rfl, hr4, hh4, hg4⟩
    have HX : Hid (Nx T D c L c') := hx
    have N2 : Hid (Nj w w4 X b M n w1.heap.size T D L c' 0) := ⟨by rw [toldD_zero]; exact hh4, hr4, (Chg2.of B3.out).fresh hg4 HZ.out⟩
    clear hx hr4 hh4 hg4 R3 B3 HL HK hmk
    obtain ⟨Z, hZ⟩ : ∃ Z, Z = w1.heap.size := ⟨_, rfl⟩
    rw [← hZ] at HZ N2 ⊢
    clear hZ
    go_wp2_with fail
    go_loopw [22] (fun t wr => ∃ j : Nat, j ≤ 8 ∧ t = .int .i64 j ∧ Nj w wr X b M n Z T D L c' j) (fun t _ => 8 - (intOf t).toNat)
    case atStart => exact ⟨0, by omega, rfl, N2.out⟩
    case round =>
      obtain ⟨j, hj, rfl, hnj⟩ := hrel
      have NJ : Hid (Nj w wr X b M n Z T D L c' j) := hnj
      clear hnj N2
      by_cases hlt : j < 8
      · have i0 : (0 : Int) ≤ (j : Int) := by omega
        have i1 : (j : Int) < 8 := by omega
        have hL8 := HX.out.len
        obtain ⟨s, hs⟩ : ∃ s, L[j]? = some s := ⟨_, List.getElem?_eq_getElem (by omega)⟩
        have HS : Hid (L[j]? = some s) := hs
        have hs32 : s < 32 := HX.out.lt s (List.mem_of_getElem? hs)
        have a0 := NJ.out.r.at' (k := 0) hs (by omega)
        have a1 := NJ.out.r.at' (k := 1) hs (by omega)
        have a2 := NJ.out.r.at' (k := 2) hs (by omega)
        have a3 := NJ.out.r.at' (k := 3) hs (by omega)
        have a4 := NJ.out.r.at' (k := 4) hs (by omega)
        have a5 := NJ.out.r.at' (k := 5) hs (by omega)
        have a6 := NJ.out.r.at' (k := 6) hs (by omega)
        have a7 := NJ.out.r.at' (k := 7) hs (by omega)
        have a8 := NJ.out.r.at' (k := 8) hs (by omega)
        have a9 := NJ.out.r.at' (k := 9) hs (by omega)
        simp only [Ce.get, Nat.add_zero] at a0 a1 a2 a3 a4 a5 a6 a7 a8 a9
        clear hs hL8
        go_wp2_with fail
        clear a0 a1 a2 a3 a4 a5 a6 a7 a8 a9
        have A1 : Hid (TcB10 (wr.alloc (.cells #[.int .i64 s, .int .i64 (T s).ve, .int .i64 (T s).pr, .int .i64 (T s).ia, .int .i64 (T s).ip, .int .i64 (T s).fa, .int .i64 (T s).fp, .int .i64 (T s).po, .int .i64 (T s).st, .int .i64 (T s).un] 86)) wr.heap.size T s) := tcB10_new _ _ _
        have N1 : Hid (Nj w (wr.alloc (.cells #[.int .i64 s, .int .i64 (T s).ve, .int .i64 (T s).pr, .int .i64 (T s).ia, .int .i64 (T s).ip, .int .i64 (T s).fa, .int .i64 (T s).fp, .int .i64 (T s).po, .int .i64 (T s).st, .int .i64 (T s).un] 86)) X b M n Z T D L c' j) := NJ.out.below (aB _ _)
        generalize wr.alloc (.cells #[.int .i64 s, .int .i64 (T s).ve, .int .i64 (T s).pr, .int .i64 (T s).ia, .int .i64 (T s).ip, .int .i64 (T s).fa, .int .i64 (T s).fp, .int .i64 (T s).po, .int .i64 (T s).st, .int .i64 (T s).un] 86) = W0 at *
        generalize wr.heap.size = V at *
        have hve := HV.out s hs32
        obtain ⟨w5, hup, hm5, hc5⟩ := (N1.out.h.below (Below.refl _ _).drew).m.put (s := s) (v := (T s).ve) hs32 hve.1 (by omega) (by omega)
        have N5 : Hid (Nj w w5 X b M n Z T D L c' (j + 1)) := by
          have N1d := N1.out.below (Below.refl _ _).drew
          have hzm : Z ≠ M := by have := HH.out.m.lt; have := HZ.out; omega
          refine ⟨?_, N1d.r.chg hc5 hzm, N1d.g.on hc5 (.inr (.inl rfl))⟩
          rw [toldD_next HS.out]
          exact N1d.h.put hm5 hc5
        have t1 := N1.out.h.c1
        have v0 := A1.out.c0
        have v1 := A1.out.c1
        clear hm5 hc5 hve
        go_region
        go_wp2_with fail
        go_roundw
        case rel => exact ⟨j + 1, by omega, by go_num, N5.out⟩
        case measure => simp [intOf]; omega
      · obtain rfl : j = 8 := by omega
        have hL8 := HX.out.len
        go_wp2_with fail
        go_ret
        refine ⟨Z, L, c', HX.out, rfl, HZ.out, NJ.out.r, ?_, NJ.out.g⟩
        have := NJ.out.h
        rw [List.take_of_length_le (by omega)] at this
        exact this
  · obtain ⟨w3, happ, hr3, hc3⟩ := rows_appends R2.out ((newsL T D).take 8) ⟨g, 0, none⟩ cap 109 (fun q u hu => tk hb2 (hrow q u hu)) (by rw [HL.out]; show 0 + _ ≤ _; omega)
    have R3 : Hid (RowsB w3 w1.heap.size T ((newsL T D).take 8)) := hr3
    have B3 : Hid (Below w.heap.size w w3) := Chg.below B2.out hc3 HZ.out
    clear hr3 hc3 hrow R2 B2 B1 hb1 hb2 hr2
    obtain ⟨N, hN⟩ : ∃ N, N = (newsL T D).length := ⟨_, rfl⟩
    have g4 : N ≤ cap := by omega
    by_cases h8 : ¬ 8 < N
    · have HK : Hid (N = ((newsL T D).take 8).length) := by show _ = _; rw [HL.out]; omega
      rw [← HK.out] at happ
      rw [← hN] at *
      simp only [List.length_nil, Nat.zero_add] at happ
      have g1 : ¬ (8 : Int) < (N : Int) := by omega
      have g2 : (N : Int) ≤ (cap : Int) := by omega
      have g3 : (0 : Int) ≤ (N : Int) := by omega
      clear hN
      go_wp2_with (at_builtin; refine wpList_append_eq rfl _ _ 109 rfl _ _ _ _ rfl rfl happ ?_)
      refine (fill_len X b M n c w1.heap.size _ low T D ((newsL T D).take 8) w3 HK.out (HH.out.below B3.out) (HT.out.below B3.out) R3.out (by have h := tlt HH.out.c0; have := HZ.out; simp only at h; omega) (by have := HH.out.m.lt; have := HZ.out; omega) (by have := HT.out.lt; have := HZ.out; omega)).mono ?_
      rintro e w4 ⟨L, c', hx, rfl, hr4, hh4, hg4⟩
      have HX : Hid (Nx T D c L c') := hx
      have N2 : Hid (Nj w w4 X b M n w1.heap.size T D L c' 0) := ⟨by rw [toldD_zero]; exact hh4, hr4, (Chg2.of B3.out).fresh hg4 HZ.out⟩
      clear hx hr4 hh4 hg4 R3 B3 HL HK hmk
      obtain ⟨Z, hZ⟩ : ∃ Z, Z = w1.heap.size := ⟨_, rfl⟩
      rw [← hZ] at HZ N2 ⊢
      clear hZ
      go_wp2_with fail
      go_loopw [22] (fun t wr => ∃ j : Nat, j ≤ 8 ∧ t = .int .i64 j ∧ Nj w wr X b M n Z T D L c' j) (fun t _ => 8 - (intOf t).toNat)
      case atStart => exact ⟨0, by omega, rfl, N2.out⟩
      case round =>
        obtain ⟨j, hj, rfl, hnj⟩ := hrel
        have NJ : Hid (Nj w wr X b M n Z T D L c' j) := hnj
        clear hnj N2
        by_cases hlt : j < 8
        · have i0 : (0 : Int) ≤ (j : Int) := by omega
          have i1 : (j : Int) < 8 := by omega
          have hL8 := HX.out.len
          obtain ⟨s, hs⟩ : ∃ s, L[j]? = some s := ⟨_, List.getElem?_eq_getElem (by omega)⟩
          have HS : Hid (L[j]? = some s) := hs
          have hs32 : s < 32 := HX.out.lt s (List.mem_of_getElem? hs)
          have a0 := NJ.out.r.at' (k := 0) hs (by omega)
          have a1 := NJ.out.r.at' (k := 1) hs (by omega)
          have a2 := NJ.out.r.at' (k := 2) hs (by omega)
          have a3 := NJ.out.r.at' (k := 3) hs (by omega)
          have a4 := NJ.out.r.at' (k := 4) hs (by omega)
          have a5 := NJ.out.r.at' (k := 5) hs (by omega)
          have a6 := NJ.out.r.at' (k := 6) hs (by omega)
          have a7 := NJ.out.r.at' (k := 7) hs (by omega)
          have a8 := NJ.out.r.at' (k := 8) hs (by omega)
          have a9 := NJ.out.r.at' (k := 9) hs (by omega)
          simp only [Ce.get, Nat.add_zero] at a0 a1 a2 a3 a4 a5 a6 a7 a8 a9
          clear hs hL8
          go_wp2_with fail
          clear a0 a1 a2 a3 a4 a5 a6 a7 a8 a9
          have A1 : Hid (TcB10 (wr.alloc (.cells #[.int .i64 s, .int .i64 (T s).ve, .int .i64 (T s).pr, .int .i64 (T s).ia, .int .i64 (T s).ip, .int .i64 (T s).fa, .int .i64 (T s).fp, .int .i64 (T s).po, .int .i64 (T s).st, .int .i64 (T s).un] 86)) wr.heap.size T s) := tcB10_new _ _ _
          have N1 : Hid (Nj w (wr.alloc (.cells #[.int .i64 s, .int .i64 (T s).ve, .int .i64 (T s).pr, .int .i64 (T s).ia, .int .i64 (T s).ip, .int .i64 (T s).fa, .int .i64 (T s).fp, .int .i64 (T s).po, .int .i64 (T s).st, .int .i64 (T s).un] 86)) X b M n Z T D L c' j) := NJ.out.below (aB _ _)
          generalize wr.alloc (.cells #[.int .i64 s, .int .i64 (T s).ve, .int .i64 (T s).pr, .int .i64 (T s).ia, .int .i64 (T s).ip, .int .i64 (T s).fa, .int .i64 (T s).fp, .int .i64 (T s).po, .int .i64 (T s).st, .int .i64 (T s).un] 86) = W0 at *
          generalize wr.heap.size = V at *
          have hve := HV.out s hs32
          obtain ⟨w5, hup, hm5, hc5⟩ := (N1.out.h.below (Below.refl _ _).drew).m.put (s := s) (v := (T s).ve) hs32 hve.1 (by omega) (by omega)
          have N5 : Hid (Nj w w5 X b M n Z T D L c' (j + 1)) := by
            have N1d := N1.out.below (Below.refl _ _).drew
            have hzm : Z ≠ M := by have := HH.out.m.lt; have := HZ.out; omega
            refine ⟨?_, N1d.r.chg hc5 hzm, N1d.g.on hc5 (.inr (.inl rfl))⟩
            rw [toldD_next HS.out]
            exact N1d.h.put hm5 hc5
          have t1 := N1.out.h.c1
          have v0 := A1.out.c0
          have v1 := A1.out.c1
          clear hm5 hc5 hve
          go_region
          go_wp2_with fail
          go_roundw
          case rel => exact ⟨j + 1, by omega, by go_num, N5.out⟩
          case measure => simp [intOf]; omega
        · obtain rfl : j = 8 := by omega
          have hL8 := HX.out.len
          go_wp2_with fail
          go_ret
          refine ⟨Z, L, c', HX.out, rfl, HZ.out, NJ.out.r, ?_, NJ.out.g⟩
          have := NJ.out.h
          rw [List.take_of_length_le (by omega)] at this
          exact this
    · have HK : Hid (8 = ((newsL T D).take 8).length) := by show _ = _; rw [HL.out]; omega
      rw [← HK.out] at happ
      rw [← hN] at *
      simp only [List.length_nil, Nat.zero_add] at happ
      have g1 : (8 : Int) < (N : Int) := by omega
      have g2 : (8 : Int) ≤ (cap : Int) := by omega
      clear hN
      go_wp2_with (at_builtin; refine wpList_append_eq rfl _ _ 109 rfl _ _ _ _ rfl rfl happ ?_)
      refine (fill_len X b M n c w1.heap.size _ low T D ((newsL T D).take 8) w3 HK.out (HH.out.below B3.out) (HT.out.below B3.out) R3.out (by have h := tlt HH.out.c0; have := HZ.out; simp only at h; omega) (by have := HH.out.m.lt; have := HZ.out; omega) (by have := HT.out.lt; have := HZ.out; omega)).mono ?_
      rintro e w4 ⟨L, c', hx, rfl, hr4, hh4, hg4⟩
      have HX : Hid (Nx T D c L c') := hx
      have N2 : Hid (Nj w w4 X b M n w1.heap.size T D L c' 0) := ⟨by rw [toldD_zero]; exact hh4, hr4, (Chg2.of B3.out).fresh hg4 HZ.out⟩
      clear hx hr4 hh4 hg4 R3 B3 HL HK hmk
      obtain ⟨Z, hZ⟩ : ∃ Z, Z = w1.heap.size := ⟨_, rfl⟩
      rw [← hZ] at HZ N2 ⊢
      clear hZ
      go_wp2_with fail
      go_loopw [22] (fun t wr => ∃ j : Nat, j ≤ 8 ∧ t = .int .i64 j ∧ Nj w wr X b M n Z T D L c' j) (fun t _ => 8 - (intOf t).toNat)
      case atStart => exact ⟨0, by omega, rfl, N2.out⟩
      case round =>
        obtain ⟨j, hj, rfl, hnj⟩ := hrel
        have NJ : Hid (Nj w wr X b M n Z T D L c' j) := hnj
        clear hnj N2
        by_cases hlt : j < 8
        · have i0 : (0 : Int) ≤ (j : Int) := by omega
          have i1 : (j : Int) < 8 := by omega
          have hL8 := HX.out.len
          obtain ⟨s, hs⟩ : ∃ s, L[j]? = some s := ⟨_, List.getElem?_eq_getElem (by omega)⟩
          have HS : Hid (L[j]? = some s) := hs
          have hs32 : s < 32 := HX.out.lt s (List.mem_of_getElem? hs)
          have a0 := NJ.out.r.at' (k := 0) hs (by omega)
          have a1 := NJ.out.r.at' (k := 1) hs (by omega)
          have a2 := NJ.out.r.at' (k := 2) hs (by omega)
          have a3 := NJ.out.r.at' (k := 3) hs (by omega)
          have a4 := NJ.out.r.at' (k := 4) hs (by omega)
          have a5 := NJ.out.r.at' (k := 5) hs (by omega)
          have a6 := NJ.out.r.at' (k := 6) hs (by omega)
          have a7 := NJ.out.r.at' (k := 7) hs (by omega)
          have a8 := NJ.out.r.at' (k := 8) hs (by omega)
          have a9 := NJ.out.r.at' (k := 9) hs (by omega)
          simp only [Ce.get, Nat.add_zero] at a0 a1 a2 a3 a4 a5 a6 a7 a8 a9
          clear hs hL8
          go_wp2_with fail
          clear a0 a1 a2 a3 a4 a5 a6 a7 a8 a9
          have A1 : Hid (TcB10 (wr.alloc (.cells #[.int .i64 s, .int .i64 (T s).ve, .int .i64 (T s).pr, .int .i64 (T s).ia, .int .i64 (T s).ip, .int .i64 (T s).fa, .int .i64 (T s).fp, .int .i64 (T s).po, .int .i64 (T s).st, .int .i64 (T s).un] 86)) wr.heap.size T s) := tcB10_new _ _ _
          have N1 : Hid (Nj w (wr.alloc (.cells #[.int .i64 s, .int .i64 (T s).ve, .int .i64 (T s).pr, .int .i64 (T s).ia, .int .i64 (T s).ip, .int .i64 (T s).fa, .int .i64 (T s).fp, .int .i64 (T s).po, .int .i64 (T s).st, .int .i64 (T s).un] 86)) X b M n Z T D L c' j) := NJ.out.below (aB _ _)
          generalize wr.alloc (.cells #[.int .i64 s, .int .i64 (T s).ve, .int .i64 (T s).pr, .int .i64 (T s).ia, .int .i64 (T s).ip, .int .i64 (T s).fa, .int .i64 (T s).fp, .int .i64 (T s).po, .int .i64 (T s).st, .int .i64 (T s).un] 86) = W0 at *
          generalize wr.heap.size = V at *
          have hve := HV.out s hs32
          obtain ⟨w5, hup, hm5, hc5⟩ := (N1.out.h.below (Below.refl _ _).drew).m.put (s := s) (v := (T s).ve) hs32 hve.1 (by omega) (by omega)
          have N5 : Hid (Nj w w5 X b M n Z T D L c' (j + 1)) := by
            have N1d := N1.out.below (Below.refl _ _).drew
            have hzm : Z ≠ M := by have := HH.out.m.lt; have := HZ.out; omega
            refine ⟨?_, N1d.r.chg hc5 hzm, N1d.g.on hc5 (.inr (.inl rfl))⟩
            rw [toldD_next HS.out]
            exact N1d.h.put hm5 hc5
          have t1 := N1.out.h.c1
          have v0 := A1.out.c0
          have v1 := A1.out.c1
          clear hm5 hc5 hve
          go_region
          go_wp2_with fail
          go_roundw
          case rel => exact ⟨j + 1, by omega, by go_num, N5.out⟩
          case measure => simp [intOf]; omega
        · obtain rfl : j = 8 := by omega
          have hL8 := HX.out.len
          go_wp2_with fail
          go_ret
          refine ⟨Z, L, c', HX.out, rfl, HZ.out, NJ.out.r, ?_, NJ.out.g⟩
          have := NJ.out.h
          rw [List.take_of_length_le (by omega)] at this
          exact this
end Go.Proofs.YtjfhompbeengmaaDoor
