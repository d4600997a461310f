/-
  What a mirror has that hears a teller, as plain mathematics: told so often as slots need, and once more, it has all.
-/
import Derived.Test.YtifkbafdjkgnoaaDoorTeM
import Derived.Test.YtifkbafdjkgnoaaDoorMiM
namespace Go.Proofs.YtifkbafdjkgnoaaDoor

/-- a slot that was never laid is empty. -/
def Zer (T : Tb) : Prop := ∀ k, k < 32 → (T k).ve = 0 → T k = noC
theorem Zer.new : Zer newT := fun _ _ _ => rfl
theorem Zer.upd {T : Tb} (h : Zer T) (k : Nat) (c : Ce) (hc : c.ve ≠ 0) : Zer (upd T k c) := fun j hj he => by
  unfold Go.Proofs.YtifkbafdjkgnoaaDoor.upd at he ⊢
  split at he
  · exact (hc he).elim
  · rename_i hn; rw [if_neg hn]; exact h j hj he
theorem Zer.lay {T : Tb} {n k : Nat} (h : Zer T) (hv : Vers T n) (hk : k < 32) (pr ia ip fa fp po st un : Int) : Zer (layT T k pr ia ip fa fp po st un) := by
  unfold layT
  refine h.upd k _ ?_
  have := (hv k hk).1
  simp only
  omega
theorem Zer.add {T : Tb} {n : Nat} (h : Zer T) (hv : Vers T n) (low pr ia ip fa fp st un : Int) : Zer (addT T low pr ia ip fa fp st un).2.2 := by
  unfold addT
  split
  · exact h
  split
  · exact h
  rename_i h2
  split
  · exact h
  · exact h.lay hv (fst_lt h2) _ _ _ _ _ _ _ _
theorem Zer.drop {T : Tb} {n : Nat} (h : Zer T) (hv : Vers T n) (k : Int) : Zer (dropT T k) := by
  unfold dropT
  split
  · rename_i e
    have := slotE_ok e
    exact h.lay hv (by omega) _ _ _ _ _ _ _ _
  · exact h
theorem Zer.set {T : Tb} {n : Nat} (h : Zer T) (hv : Vers T n) (k st un : Int) : Zer (setT T k st un) := by
  unfold setT
  split
  · rename_i e
    have := slotE_ok e
    refine h.upd _ _ ?_
    have := (hv k.toNat (by omega)).1
    simp only
    omega
  · exact h
/-- cells that are told: their slots, as the table has them. -/
def tcs (T : Tb) (L : List Nat) : List Tc := L.map fun s : Nat => ⟨(s : Int), T s⟩
/-- what the mirror has is the table's, or nothing. -/
def Ech (M T : Tb) : Prop := ∀ k, k < 32 → M k = T k ∨ M k = noC
theorem Ech.new (T : Tb) : Ech newT T := fun _ _ => .inr rfl
theorem take_ech {M T : Tb} {n s : Nat} (h : Ech M T) (hz : Zer T) (hv : Vers T n) (hs : s < 32) : Ech (takeT M ⟨s, T s⟩) T ∧ takeT M ⟨s, T s⟩ s = T s ∧ ∀ k, k < 32 → M k = T k → takeT M ⟨s, T s⟩ k = T k := by
  have e : (Int.toNat (s : Int)) = s := Int.toNat_natCast s
  unfold takeT
  simp only [e]
  by_cases hlt : (M s).ve < (T s).ve
  · rw [if_pos hlt]
    refine ⟨fun k hk => ?_, upd_same _ _ _, fun k hk he => ?_⟩
    · by_cases hks : k = s
      · subst hks; exact .inl (upd_same _ _ _)
      · rw [upd_other _ _ hks]; exact h k hk
    · by_cases hks : k = s
      · subst hks; exact upd_same _ _ _
      · rw [upd_other _ _ hks]; exact he
  · rw [if_neg hlt]
    refine ⟨h, ?_, fun k hk he => he⟩
    rcases h s hs with h1 | h1
    · exact h1
    · rw [h1] at hlt
      have h2 := (hv s hs).1
      have h3 : (noC).ve = 0 := rfl
      rw [h3] at hlt
      rw [h1, hz s hs (by omega)]
theorem takeL_ech {T : Tb} {n : Nat} (hz : Zer T) (hv : Vers T n) : ∀ (L : List Nat) (M : Tb), Ech M T → (∀ x ∈ L, x < 32) → Ech (takeL M (tcs T L)) T ∧ (∀ x ∈ L, takeL M (tcs T L) x = T x) ∧ ∀ k, k < 32 → M k = T k → takeL M (tcs T L) k = T k
  | [], M, h, _ => ⟨h, fun x hx => by simp at hx, fun _ _ e => e⟩
  | s :: L, M, h, hl => by
    obtain ⟨a1, a2, a3⟩ := take_ech h hz hv (hl s (by simp))
    obtain ⟨b1, b2, b3⟩ := takeL_ech hz hv L (takeT M ⟨s, T s⟩) a1 (fun x hx => hl x (by simp [hx]))
    have e : takeL M (tcs T (s :: L)) = takeL (takeT M ⟨s, T s⟩) (tcs T L) := rfl
    rw [e]
    refine ⟨b1, fun x hx => ?_, fun k hk he => b3 k hk (a3 k hk he)⟩
    rcases List.mem_cons.1 hx with rfl | hx
    · exact b3 _ (hl _ (by simp)) a2
    · exact b2 x hx
/-- the last n slots ahead of the cursor are the table's. -/
def Cov (M T : Tb) (c n : Nat) : Prop := ∀ r, r < n → r < 32 → M ((c + 31 - r) % 32) = T ((c + 31 - r) % 32)
theorem Cov.all {M T : Tb} {c n : Nat} (h : Cov M T c n) (hn : 32 ≤ n) (k : Nat) (hk : k < 32) : M k = T k := by
  have := h ((c + 31 - k) % 32) (by omega) (by omega)
  rw [show (c + 31 - (c + 31 - k) % 32) % 32 = k from by omega] at this
  exact this
theorem wk_run (c : Nat) : ∀ j, j ≤ 32 → (wk [] c j).length = j
  | 0, _ => rfl
  | j + 1, h => by
    have ih := wk_run c j (by omega)
    have hn : ¬ (c + j) % 32 ∈ wk [] c j := fun hm => by
      rcases (wk_mem _ _ _ _).1 hm with h1 | ⟨i, hi, e⟩
      · simp at h1
      · omega
    rw [wk_out hn, List.length_append, ih]
    rfl
theorem Nx.quiet {T : Tb} {D : To} {c : Nat} {L : List Nat} {c1 : Nat} (h : Nx T D c L c1) (h0 : newsL T D = []) : c1 = (c + 8) % 32 ∧ ∀ i, i < 8 → (c + i) % 32 ∈ L := by
  obtain ⟨j, hj, rfl, rfl⟩ := h.ex
  rw [h0] at hj ⊢
  have e8 : j = 8 := hj.one (i := j) (j := 8) ⟨fun i hi => by rw [List.take_nil, wk_run c i (by omega)]; exact hi, by rw [List.take_nil, wk_run c 8 (by omega)]; omega⟩
  subst e8
  exact ⟨rfl, fun i hi => (wk_mem _ _ _ _).2 (.inr ⟨i, hi, rfl⟩)⟩
/-- how it stands behind so many batches that were heard. -/
structure Hrd (T : Tb) (D : To) (c : Nat) (M : Tb) (i : Nat) : Prop where
  lag : (newsL T D).length ≤ 32 - 8 * i
  ech : Ech M T
  cov : Cov M T c (8 * (i - 4))
theorem Hrd.start (T : Tb) (D : To) (c : Nat) : Hrd T D c newT 0 := ⟨newsL_len T D, Ech.new T, fun r h => by omega⟩
theorem Hrd.next {T : Tb} {D : To} {c : Nat} {M : Tb} {i n : Nat} {L : List Nat} {c1 : Nat} (h : Hrd T D c M i) (hx : Nx T D c L c1) (hc : c < 32) (hz : Zer T) (hv : Vers T n) : Hrd T (toldD T D L) c1 (takeL M (tcs T L)) (i + 1) := by
  obtain ⟨a1, a2, a3⟩ := takeL_ech hz hv L M h.ech hx.lt
  refine ⟨?_, a1, ?_⟩
  · rw [hx.news, List.length_drop]
    have := h.lag
    omega
  · by_cases h4 : 4 ≤ i
    · have h0 : newsL T D = [] := List.length_eq_zero_iff.1 (by have := h.lag; omega)
      obtain ⟨rfl, hL⟩ := hx.quiet h0
      intro r hr hr2
      by_cases h8 : r < 8
      · have := hL (7 - r) (by omega)
        rw [show (c + (7 - r)) % 32 = ((c + 8) % 32 + 31 - r) % 32 from by omega] at this
        exact a2 _ this
      · have hc2 := h.cov (r - 8) (by omega) (by omega)
        rw [show (c + 31 - (r - 8)) % 32 = ((c + 8) % 32 + 31 - r) % 32 from by omega] at hc2
        exact a3 _ (by omega) hc2
    · intro r hr
      omega
theorem Hrd.all {T : Tb} {D : To} {c : Nat} {M : Tb} (h : Hrd T D c M 9) : newsL T D = [] ∧ ∀ k, k < 32 → M k = T k :=
  ⟨List.length_eq_zero_iff.1 (by have := h.lag; omega), fun k hk => h.cov.all (by omega) k hk⟩
theorem tcs_len (T : Tb) (L : List Nat) : (tcs T L).length = L.length := by simp [tcs]
theorem tcs_ok {T : Tb} {L : List Nat} (h : ∀ x ∈ L, x < 32) : ((tcs T L).any fun x => !okS x) = false := by
  rw [List.any_eq_false]
  intro x hx
  simp only [tcs, List.mem_map] at hx
  obtain ⟨s, hs, rfl⟩ := hx
  have : okS ⟨(s : Int), T s⟩ = true := okS_iff.2 ⟨by simp only; omega, by have := h s hs; simp only; omega⟩
  simp [this]
/-- a batch told to a mirror of life 1, or of none. -/
theorem tell_batch {T M : Tb} {L : List Nat} {old : Int} (h8 : L.length = 8) (hl : ∀ x ∈ L, x < 32) (h : old = 1 ∨ (old = 0 ∧ M = newT)) : tellE old 1 (tcs T L) = 0 ∧ tellLife old 1 (tcs T L) = 1 ∧ tellT old 1 M (tcs T L) = takeL M (tcs T L) := by
  have hE : tellE old 1 (tcs T L) = 0 := by
    unfold tellE
    rw [if_neg, if_neg]
    · rcases h with rfl | ⟨rfl, _⟩ <;> omega
    · rw [tcs_ok hl, tcs_len]
      simp
      omega
  refine ⟨hE, by unfold tellLife; rw [if_pos hE], ?_⟩
  unfold tellT
  rw [if_pos hE]
  rcases h with rfl | ⟨rfl, rfl⟩ <;> simp
end Go.Proofs.YtifkbafdjkgnoaaDoor
