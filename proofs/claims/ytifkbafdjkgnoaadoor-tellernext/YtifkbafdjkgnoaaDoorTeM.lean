/-
  A teller as plain mathematics: what is new, a batch filled from the cursor on, what was told.
-/
import Derived.Test.YtifkbafdjkgnoaaDoorTbM
namespace Go.Proofs.YtifkbafdjkgnoaaDoor

/-- versions by slots, as they were told last. -/
abbrev To := Nat → Int
def newsL (T : Tb) (D : To) : List Nat := (List.range 32).filter fun i => (T i).ve != D i
/-- a batch behind so many slots from the cursor on. -/
def wk (B : List Nat) (c : Nat) : Nat → List Nat
  | 0 => B
  | j + 1 => if (c + j) % 32 ∈ wk B c j then wk B c j else wk B c j ++ [(c + j) % 32]
theorem wk_zero (B : List Nat) (c : Nat) : wk B c 0 = B := rfl
theorem wk_in {B : List Nat} {c j : Nat} (h : (c + j) % 32 ∈ wk B c j) : wk B c (j + 1) = wk B c j := by rw [wk, if_pos h]
theorem wk_out {B : List Nat} {c j : Nat} (h : ¬ (c + j) % 32 ∈ wk B c j) : wk B c (j + 1) = wk B c j ++ [(c + j) % 32] := by rw [wk, if_neg h]
theorem wk_len (B : List Nat) (c j : Nat) : (wk B c j).length ≤ (wk B c (j + 1)).length ∧ (wk B c (j + 1)).length ≤ (wk B c j).length + 1 := by
  rw [wk]; split <;> simp
theorem wk_mem (B : List Nat) (c j : Nat) (x : Nat) : x ∈ wk B c j ↔ x ∈ B ∨ ∃ i, i < j ∧ x = (c + i) % 32 := by
  induction j with
  | zero => rw [wk_zero]; exact ⟨.inl, fun h => by rcases h with h | ⟨i, hi, _⟩ <;> first | exact h | omega⟩
  | succ j ih =>
    by_cases h : (c + j) % 32 ∈ wk B c j
    · rw [wk_in h, ih]
      constructor
      · rintro (h1 | ⟨i, hi, e⟩)
        · exact .inl h1
        · exact .inr ⟨i, by omega, e⟩
      · rintro (h1 | ⟨i, hi, e⟩)
        · exact .inl h1
        · by_cases he : i = j
          · subst he; rw [← ih, e]; exact h
          · exact .inr ⟨i, by omega, e⟩
    · rw [wk_out h, List.mem_append, ih, List.mem_singleton]
      constructor
      · rintro ((h1 | ⟨i, hi, e⟩) | e)
        · exact .inl h1
        · exact .inr ⟨i, by omega, e⟩
        · exact .inr ⟨j, by omega, e⟩
      · rintro (h1 | ⟨i, hi, e⟩)
        · exact .inl (.inl h1)
        · by_cases he : i = j
          · subst he; exact .inr e
          · exact .inl (.inr ⟨i, by omega, e⟩)
theorem wk_nodup {B : List Nat} (c j : Nat) (h : B.Nodup) : (wk B c j).Nodup := by
  induction j with
  | zero => exact h
  | succ j ih =>
    by_cases hm : (c + j) % 32 ∈ wk B c j
    · rw [wk_in hm]; exact ih
    · rw [wk_out hm, List.nodup_append]
      refine ⟨ih, by simp, fun a ha b hb => ?_⟩
      rw [List.mem_singleton] at hb
      subst hb
      exact fun e => hm (e ▸ ha)
theorem wk_lt {B : List Nat} (c j : Nat) (h : ∀ x ∈ B, x < 32) : ∀ x ∈ wk B c j, x < 32 := fun x hx => by
  rcases (wk_mem B c j x).1 hx with h1 | ⟨i, _, rfl⟩
  · exact h x h1
  · omega
/-- who has all of the first n has n at least. -/
theorem has_all : ∀ (n : Nat) (l : List Nat), (∀ i, i < n → i ∈ l) → n ≤ l.length
  | 0, _, _ => Nat.zero_le _
  | n + 1, l, h => by
    have h1 := has_all n (l.erase n) (fun i hi => (List.mem_erase_of_ne (by omega)).2 (h i (by omega)))
    rw [List.length_erase_of_mem (h n (by omega))] at h1
    have : 0 < l.length := List.length_pos_of_mem (h n (by omega))
    omega
theorem wk_full (B : List Nat) (c : Nat) : 32 ≤ (wk B c 32).length := has_all 32 _ fun i hi => by
  rw [wk_mem]
  refine .inr ⟨(i + 32 - c % 32) % 32, by omega, ?_⟩
  omega
/-- that many slots are passed: the first count at which the batch is full. -/
def Full (B : List Nat) (c j : Nat) : Prop := (∀ i, i < j → (wk B c i).length < 8) ∧ 8 ≤ (wk B c j).length
theorem Full.one {B : List Nat} {c i j : Nat} (h : Full B c i) (k : Full B c j) : i = j := by
  rcases Nat.lt_trichotomy i j with hlt | e | hlt
  · have := k.1 i hlt; have := h.2; omega
  · exact e
  · have := h.1 j hlt; have := k.2; omega
theorem Full.le {B : List Nat} {c j : Nat} (h : Full B c j) : j ≤ 32 := by
  rcases Nat.lt_or_ge 32 j with hlt | h1
  · have := h.1 32 hlt; have := wk_full B c; omega
  · exact h1
theorem wk_le8 {B : List Nat} {c j : Nat} (hB : B.length ≤ 8) (h : ∀ i, i < j → (wk B c i).length < 8) : (wk B c j).length ≤ 8 := by
  cases j with
  | zero => exact hB
  | succ j => have := h j (by omega); have := (wk_len B c j).2; omega
theorem Full.len {B : List Nat} {c j : Nat} (h : Full B c j) (hB : B.length ≤ 8) : (wk B c j).length = 8 := by
  have := wk_le8 hB h.1; have := h.2; omega
theorem full_ex (B : List Nat) (c : Nat) : ∃ j, Full B c j := by
  have key : ∀ n, 8 ≤ (wk B c n).length → ∃ j, Full B c j := by
    intro n
    induction n using Nat.strongRecOn with
    | ind n ih =>
      intro hn
      by_cases h : ∀ i, i < n → (wk B c i).length < 8
      · exact ⟨n, h, hn⟩
      · simp only [Classical.not_forall] at h
        obtain ⟨i, hi, hl⟩ := h
        exact ih i hi (by omega)
  exact key 32 (by have := wk_full B c; omega)
theorem wk_pre (B : List Nat) (c : Nat) : ∀ j, ∃ R, wk B c j = B ++ R
  | 0 => ⟨[], by rw [wk_zero, List.append_nil]⟩
  | j + 1 => by
    obtain ⟨R, hR⟩ := wk_pre B c j
    rw [wk]
    split
    · exact ⟨R, hR⟩
    · exact ⟨R ++ [(c + j) % 32], by rw [hR, List.append_assoc]⟩
/-- what is told, and the cursor behind it. -/
structure Nx (T : Tb) (D : To) (c : Nat) (L : List Nat) (c' : Nat) : Prop where
  ex : ∃ j, Full ((newsL T D).take 8) c j ∧ L = wk ((newsL T D).take 8) c j ∧ c' = (c + j) % 32
/-- what was told behind it. -/
def toldD (T : Tb) (D : To) (L : List Nat) : To := fun i => if i ∈ L then (T i).ve else D i
theorem newsL_mem {T : Tb} {D : To} {x : Nat} : x ∈ newsL T D ↔ x < 32 ∧ (T x).ve ≠ D x := by
  unfold newsL; simp
theorem newsL_nodup (T : Tb) (D : To) : (newsL T D).Nodup := List.Nodup.sublist List.filter_sublist List.nodup_range
theorem newsL_len (T : Tb) (D : To) : (newsL T D).length ≤ 32 := by
  have := List.length_filter_le (fun i => (T i).ve != D i) (List.range 32)
  simpa [newsL] using this
theorem Nx.ex' (T : Tb) (D : To) (c : Nat) : ∃ L c', Nx T D c L c' := by
  obtain ⟨j, hj⟩ := full_ex ((newsL T D).take 8) c
  exact ⟨_, _, ⟨j, hj, rfl, rfl⟩⟩
theorem Nx.one {T : Tb} {D : To} {c : Nat} {L L' : List Nat} {c1 c2 : Nat} (h : Nx T D c L c1) (k : Nx T D c L' c2) : L = L' ∧ c1 = c2 := by
  obtain ⟨i, hi, rfl, rfl⟩ := h.ex
  obtain ⟨j, hj, rfl, rfl⟩ := k.ex
  obtain rfl := hi.one hj
  exact ⟨rfl, rfl⟩
theorem take8 (l : List Nat) : (l.take 8).length ≤ 8 := by rw [List.length_take]; omega
theorem Nx.len {T : Tb} {D : To} {c : Nat} {L : List Nat} {c1 : Nat} (h : Nx T D c L c1) : L.length = 8 := by
  obtain ⟨i, hi, rfl, rfl⟩ := h.ex
  exact hi.len (take8 _)
theorem Nx.lt {T : Tb} {D : To} {c : Nat} {L : List Nat} {c1 : Nat} (h : Nx T D c L c1) : ∀ x ∈ L, x < 32 := by
  obtain ⟨i, hi, rfl, rfl⟩ := h.ex
  exact wk_lt _ _ fun x hx => (newsL_mem.1 (List.mem_of_mem_take hx)).1
theorem Nx.nodup {T : Tb} {D : To} {c : Nat} {L : List Nat} {c1 : Nat} (h : Nx T D c L c1) : L.Nodup := by
  obtain ⟨i, hi, rfl, rfl⟩ := h.ex
  exact wk_nodup _ _ ((newsL_nodup T D).sublist (List.take_sublist _ _))
theorem Nx.cur {T : Tb} {D : To} {c : Nat} {L : List Nat} {c1 : Nat} (h : Nx T D c L c1) : c1 < 32 := by
  obtain ⟨i, hi, rfl, rfl⟩ := h.ex
  omega
/-- behind it, what is new is what was new but for the first eight. -/
theorem Nx.news {T : Tb} {D : To} {c : Nat} {L : List Nat} {c1 : Nat} (h : Nx T D c L c1) : newsL T (toldD T D L) = (newsL T D).drop 8 := by
  have hf : newsL T (toldD T D L) = (newsL T D).filter fun i => decide (i ∉ L) := by
    unfold newsL
    rw [List.filter_filter]
    apply List.filter_congr
    intro x _
    unfold toldD
    by_cases hx : x ∈ L <;> simp [hx]
  rw [hf]
  obtain ⟨j, hj, rfl, _⟩ := h.ex
  have hnd := newsL_nodup T D
  have hsplit : newsL T D = (newsL T D).take 8 ++ (newsL T D).drop 8 := (List.take_append_drop 8 _).symm
  by_cases h8 : 8 ≤ (newsL T D).length
  · have hj0 : j = 0 := by
      rcases Nat.eq_zero_or_pos j with e | hp
      · exact e
      · have := hj.1 0 hp
        rw [wk_zero, List.length_take] at this
        omega
    subst hj0
    rw [wk_zero]
    generalize newsL T D = N at *
    rw [hsplit] at hnd
    rw [List.nodup_append] at hnd
    have h1 : (N.take 8).filter (fun i => decide (i ∉ N.take 8)) = [] := by
      rw [List.filter_eq_nil_iff]
      intro x hx
      simp [hx]
    have h2 : (N.drop 8).filter (fun i => decide (i ∉ N.take 8)) = N.drop 8 := by
      rw [List.filter_eq_self]
      intro x hx
      simp only [decide_eq_true_eq]
      exact fun hx2 => hnd.2.2 x hx2 x hx rfl
    conv => lhs; rw [hsplit]
    rw [List.filter_append]
    rw [List.take_append_drop, h1, h2, List.nil_append]
  · have h0 : (newsL T D).drop 8 = [] := List.drop_eq_nil_of_le (by omega)
    rw [h0, List.filter_eq_nil_iff]
    intro x hx
    have : x ∈ wk ((newsL T D).take 8) c j := (wk_mem _ _ _ _).2 (.inl (by rw [List.take_of_length_le (by omega)]; exact hx))
    simp [this]
end Go.Proofs.YtifkbafdjkgnoaaDoor
