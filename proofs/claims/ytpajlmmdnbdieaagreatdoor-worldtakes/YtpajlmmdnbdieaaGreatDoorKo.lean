/-
  Texts in one: NtZ NkM TeN WtM WtP RuL.
-/
import Derived.Test.YtpajlmmdnbdieaaGreatDoorNoM
import Derived.Test.YtpajlmmdnbdieaaGreatDoorKi
import Derived.Test.YtpajlmmdnbdieaaGreatDoorKe
import Derived.Test.YtpajlmmdnbdieaaGreatDoorKf
import Derived.Test.YtpajlmmdnbdieaaGreatDoorKn
import Derived.Test.YtpajlmmdnbdieaaGreatDoorKj
namespace Go.Proofs.YtpajlmmdnbdieaaGreatDoor
open Go.RowKit

theorem act_tick {x : No} (h : x.ro.ac = true) : x.tkE = 0 ∧ x.tick = x.ticked.noted ∧ x.ticked.ro.ac = true := by
  have hr : x.ro.rings = false := by unfold Ro.rings; rw [h]; rfl
  have hE : x.tkE = 0 := by unfold No.tkE; rw [hr]; rfl
  have ht : x.tick = x.ticked.noted := by unfold No.tick No.tk1; rw [hE, hr]; rfl
  refine ⟨hE, ht, ?_⟩
  show x.ro.tick.ac = true
  unfold Ro.tick
  rw [h]
  exact h
theorem noted_T (x : No) : x.noted.T = x.T := by unfold No.noted; split <;> rfl
end Go.Proofs.YtpajlmmdnbdieaaGreatDoor

namespace Go.Proofs.YtpajlmmdnbdieaaGreatDoor
open Go.RowKit

/-- a table of these ends' flows, by ports from low on; of state and time Q holds. -/
def BkT (T : Tb) (ds : List (Int × Int)) (pr fa fp low : Int) (Q : Int → Int → Prop) : Prop :=
  ∀ j, (∀ e, ds[j]? = some e → ∃ ve st un, T j = ⟨ve, pr, e.1, e.2, fa, fp, low + j, st, un⟩ ∧ Q st un) ∧ (ds.length ≤ j → T j = noC)
section
variable {T : Tb} {ds : List (Int × Int)} {pr fa fp low : Int} {Q : Int → Int → Prop}
theorem BkT.new : BkT newT [] pr fa fp low Q := fun j => ⟨fun e h => by simp at h, fun _ => rfl⟩
theorem BkT.at (h : BkT T ds pr fa fp low Q) (j : Nat) : T j = noC ∧ ds.length ≤ j ∨ ∃ e ve st un, ds[j]? = some e ∧ T j = ⟨ve, pr, e.1, e.2, fa, fp, low + j, st, un⟩ ∧ Q st un := by
  rcases Nat.lt_or_ge j ds.length with a | a
  · have e := List.getElem?_eq_getElem a
    obtain ⟨ve, st, un, q⟩ := (h j).1 _ e
    exact .inr ⟨_, ve, st, un, e, q⟩
  · exact .inl ⟨(h j).2 a, a⟩
theorem BkT.find (h : BkT T ds pr fa fp low Q) (hp : pr ≠ 0) (hl : ds.length ≤ 32) (hd : ds.Nodup) {j : Nat} {e : Int × Int} (he : ds[j]? = some e) : fst T (findQ pr e.1 e.2 fa fp) = some j := by
  obtain ⟨hj, _⟩ := List.getElem?_eq_some_iff.1 he
  rw [fst_some]
  refine ⟨by omega, ?_, fun i hi => ?_⟩
  · obtain ⟨ve, st, un, q, _⟩ := (h j).1 e he
    rw [q, findQ_iff]
    exact ⟨hp, rfl, rfl, rfl, rfl, rfl⟩
  · rw [Bool.eq_false_iff]
    intro hf
    obtain ⟨e', he'⟩ : ∃ e', ds[i]? = some e' := ⟨_, List.getElem?_eq_getElem (by omega)⟩
    obtain ⟨ve, st, un, q, _⟩ := (h i).1 e' he'
    rw [q, findQ_iff] at hf
    have e2 : e' = e := Prod.ext hf.2.2.1 hf.2.2.2.1
    subst e2
    have := (List.getElem?_inj (by omega) hd).1 (he'.trans he.symm)
    omega
theorem BkT.miss (h : BkT T ds pr fa fp low Q) {e : Int × Int} (he : ¬ e ∈ ds) : fst T (findQ pr e.1 e.2 fa fp) = none := by
  rw [fst_none]
  intro j hj
  rw [Bool.eq_false_iff]
  intro hf
  rcases h.at j with ⟨q, _⟩ | ⟨e', ve, st, un, he', q, _⟩
  · rw [q, findQ_iff] at hf; exact hf.1 rfl
  · rw [q, findQ_iff] at hf
    have e2 : e' = e := Prod.ext hf.2.2.1 hf.2.2.2.1
    exact he (e2 ▸ List.mem_of_getElem? he')
theorem BkT.back (h : BkT T ds pr fa fp low Q) (hp : pr ≠ 0) (hl : ds.length ≤ 32) {j : Nat} (hj : j < ds.length) : fst T (backQ pr (low + j) fa fp) = some j := by
  rw [fst_some]
  refine ⟨by omega, ?_, fun i hi => ?_⟩
  · obtain ⟨ve, st, un, q, _⟩ := (h j).1 _ (List.getElem?_eq_getElem hj)
    rw [q, backQ_iff]
    exact ⟨hp, rfl, rfl, rfl, rfl⟩
  · rw [Bool.eq_false_iff]
    intro hf
    obtain ⟨ve, st, un, q, _⟩ := (h i).1 _ (List.getElem?_eq_getElem (by omega))
    rw [q, backQ_iff] at hf
    have := hf.2.2.1
    simp only at this
    omega
theorem BkT.noback (h : BkT T ds pr fa fp low Q) {j : Nat} (hj : ds.length ≤ j) : fst T (backQ pr (low + j) fa fp) = none := by
  rw [fst_none]
  intro i hi
  rw [Bool.eq_false_iff]
  intro hf
  rcases h.at i with ⟨q, _⟩ | ⟨e', ve, st, un, he', q, _⟩
  · rw [q, backQ_iff] at hf; exact hf.1 rfl
  · rw [q, backQ_iff] at hf
    have := hf.2.2.1
    obtain ⟨hi', _⟩ := List.getElem?_eq_some_iff.1 he'
    simp only at this
    omega
theorem BkT.free (h : BkT T ds pr fa fp low Q) (hp : pr ≠ 0) (hl : ds.length < 32) : fst T freeQ = some ds.length := by
  rw [fst_some]
  refine ⟨hl, ?_, fun i hi => ?_⟩
  · rw [(h _).2 (Nat.le_refl _)]; rfl
  · obtain ⟨ve, st, un, q, _⟩ := (h i).1 _ (List.getElem?_eq_getElem hi)
    rw [q]
    simpa [freeQ] using hp
theorem BkT.add (h : BkT T ds pr fa fp low Q) (hp : pr ≠ 0) (hl : ds.length < 24) {e : Int × Int} (he : ¬ e ∈ ds) {st un : Int} (hq : Q st un) :
    ∃ T', addT T low pr e.1 e.2 fa fp st un = (ds.length, 0, T') ∧ BkT T' (ds ++ [e]) pr fa fp low Q ∧ ∃ ve, T' ds.length = ⟨ve, pr, e.1, e.2, fa, fp, low + ds.length, st, un⟩ := by
  have h1 := h.miss he
  have h2 := h.free hp (by omega)
  have h3 : freeP T low pr fa fp = some ds.length := by
    rw [freeP_some]
    exact ⟨hl, h.noback (Nat.le_refl _), fun j hj => by rw [h.back hp (by omega) hj]; rfl⟩
  refine ⟨layT T ds.length pr e.1 e.2 fa fp (low + ds.length) st un, ?_, fun j => ⟨fun e' he' => ?_, fun hj => ?_⟩, ⟨_, by unfold layT; rw [upd_same]⟩⟩
  · unfold addT; rw [h1, h2, h3]
  · rcases Nat.lt_trichotomy j ds.length with a | a | a
    · rw [List.getElem?_append_left a] at he'
      unfold layT
      rw [upd_other _ _ (by omega)]
      exact (h j).1 e' he'
    · subst a
      rw [List.getElem?_append_right (Nat.le_refl _)] at he'
      simp at he'
      subst he'
      unfold layT
      rw [upd_same]
      exact ⟨_, st, un, rfl, hq⟩
    · rw [List.getElem?_eq_none (by simp; omega)] at he'
      cases he'
  · simp at hj
    unfold layT
    rw [upd_other _ _ (by omega)]
    exact (h j).2 (by omega)
theorem BkT.set (h : BkT T ds pr fa fp low Q) (hp : pr ≠ 0) (hl : ds.length ≤ 32) {j : Nat} (hj : j < ds.length) {st un : Int} (hq : Q st un) : BkT (setT T j st un) ds pr fa fp low Q := by
  obtain ⟨ve, s0, u0, q, _⟩ := (h j).1 _ (List.getElem?_eq_getElem hj)
  have hs : slotE T (j : Int) = 0 := by
    unfold slotE
    rw [if_neg (by omega), Int.toNat_natCast, q, if_neg hp]
  unfold setT
  rw [if_pos hs, Int.toNat_natCast]
  intro i
  refine ⟨fun e he => ?_, fun hi => ?_⟩
  · by_cases e2 : i = j
    · subst e2
      rw [upd_same, q]
      obtain ⟨_, rfl⟩ := List.getElem?_eq_some_iff.1 he
      exact ⟨ve + 1, st, un, rfl, hq⟩
    · rw [upd_other _ _ e2]; exact (h i).1 e he
  · rw [upd_other _ _ (by omega)]; exact (h i).2 hi
theorem BkT.exp (h : BkT T ds pr fa fp low Q) {now : Int} (hq : ∀ st un, Q st un → now < un) : expT T now 32 = T := by
  funext j
  unfold expT
  rw [if_neg]
  rintro ⟨hj, hg⟩
  rcases h.at j with ⟨q, _⟩ | ⟨e', ve, st, un, he', q, k⟩
  · rw [q] at hg; simp [goneQ, noC] at hg
  · rw [q] at hg
    have := hq _ _ k
    simp [goneQ] at hg
    omega
theorem BkT.mono (h : BkT T ds pr fa fp low Q) {Q' : Int → Int → Prop} (hq : ∀ st un, Q st un → Q' st un) : BkT T ds pr fa fp low Q' := fun j => ⟨fun e he => by obtain ⟨ve, st, un, q, k⟩ := (h j).1 e he; exact ⟨ve, st, un, q, hq _ _ k⟩, (h j).2⟩
end
/-- a node with such a table. -/
structure Bn (ds : List (Int × Int)) (pr fa fp low : Int) (Q : Int → Int → Prop) (l : List Rl) (now : Nat) (x : No) : Prop where
  ac : x.ro.ac = true
  nw : x.now = now
  lo : x.low = low
  T : BkT x.T ds pr fa fp low Q
  ru : x.ru = l
  nd : ds.Nodup
  le : ds.length ≤ 24
theorem noted_low (x : No) : x.noted.low = x.low := by unfold No.noted; split <;> rfl
theorem Bn.tick {ds : List (Int × Int)} {pr fa fp low : Int} {Q : Int → Int → Prop} {l : List Rl} {now : Nat} {x : No} (h : Bn ds pr fa fp low Q l now x) (hq : ∀ st un, Q st un → (now : Int) + 1 < un) : x.tkE = 0 ∧ Bn ds pr fa fp low Q l (now + 1) x.tick := by
  obtain ⟨e, ht, ha⟩ := act_tick h.ac
  have hle := h.le
  have hT : x.ticked.T = x.T := by
    show expT x.T (x.now + 1) 32 = _
    rw [h.nw]
    exact h.T.exp hq
  refine ⟨e, ?_⟩
  rw [ht]
  have hn : x.ticked.now = ((now + 1 : Nat) : Int) := by show x.now + 1 = _; rw [h.nw]; omega
  refine ⟨?_, ?_, (noted_low _).trans h.lo, by rw [noted_T, hT]; exact h.T, ?_, h.nd, h.le⟩
  · unfold No.noted; split <;> exact ha
  · unfold No.noted; split <;> exact hn
  · unfold No.noted; split <;> exact h.ru
end Go.Proofs.YtpajlmmdnbdieaaGreatDoor

namespace Go.Proofs.YtpajlmmdnbdieaaGreatDoor

/-- a slot that was never laid is empty. -/
def Zer (T : Tb) : Prop := ∀ k, k < 32 → (T k).ve = 0 → T k = noC
theorem Zer.new : Zer newT := fun _ _ _ => rfl
theorem Zer.upd {T : Tb} (h : Zer T) (k : Nat) (c : Ce) (hc : c.ve ≠ 0) : Zer (upd T k c) := fun j hj he => by
  unfold Go.Proofs.YtpajlmmdnbdieaaGreatDoor.upd at he ⊢
  split at he
  · exact (hc he).elim
  · rename_i hn; rw [if_neg hn]; exact h j hj he
theorem Zer.lay {T : Tb} {n k : Nat} (h : Zer T) (hv : Vers T n) (hk : k < 32) (pr ia ip fa fp po st un : Int) : Zer (layT T k pr ia ip fa fp po st un) := by
  unfold layT
  refine h.upd k _ ?_
  have := (hv k hk).1
  simp only
  omega
theorem Zer.add {T : Tb} {n : Nat} (h : Zer T) (hv : Vers T n) (low pr ia ip fa fp st un : Int) : Zer (addT T low pr ia ip fa fp st un).2.2 := by
  unfold addT
  split
  · exact h
  split
  · exact h
  rename_i h2
  split
  · exact h
  · exact h.lay hv (fst_lt h2) _ _ _ _ _ _ _ _
theorem Zer.drop {T : Tb} {n : Nat} (h : Zer T) (hv : Vers T n) (k : Int) : Zer (dropT T k) := by
  unfold dropT
  split
  · rename_i e
    have := slotE_ok e
    exact h.lay hv (by omega) _ _ _ _ _ _ _ _
  · exact h
theorem Zer.set {T : Tb} {n : Nat} (h : Zer T) (hv : Vers T n) (k st un : Int) : Zer (setT T k st un) := by
  unfold setT
  split
  · rename_i e
    have := slotE_ok e
    refine h.upd _ _ ?_
    have := (hv k.toNat (by omega)).1
    simp only
    omega
  · exact h
/-- cells that are told: their slots, as the table has them. -/
def tcs (T : Tb) (L : List Nat) : List Tc := L.map fun s : Nat => ⟨(s : Int), T s⟩
/-- what the mirror has is the table's, or nothing. -/
def Ech (M T : Tb) : Prop := ∀ k, k < 32 → M k = T k ∨ M k = noC
theorem Ech.new (T : Tb) : Ech newT T := fun _ _ => .inr rfl
theorem take_ech {M T : Tb} {n s : Nat} (h : Ech M T) (hz : Zer T) (hv : Vers T n) (hs : s < 32) : Ech (takeT M ⟨s, T s⟩) T ∧ takeT M ⟨s, T s⟩ s = T s ∧ ∀ k, k < 32 → M k = T k → takeT M ⟨s, T s⟩ k = T k := by
  have e : (Int.toNat (s : Int)) = s := Int.toNat_natCast s
  unfold takeT
  simp only [e]
  by_cases hlt : (M s).ve < (T s).ve
  · rw [if_pos hlt]
    refine ⟨fun k hk => ?_, upd_same _ _ _, fun k hk he => ?_⟩
    · by_cases hks : k = s
      · subst hks; exact .inl (upd_same _ _ _)
      · rw [upd_other _ _ hks]; exact h k hk
    · by_cases hks : k = s
      · subst hks; exact upd_same _ _ _
      · rw [upd_other _ _ hks]; exact he
  · rw [if_neg hlt]
    refine ⟨h, ?_, fun k hk he => he⟩
    rcases h s hs with h1 | h1
    · exact h1
    · rw [h1] at hlt
      have h2 := (hv s hs).1
      have h3 : (noC).ve = 0 := rfl
      rw [h3] at hlt
      rw [h1, hz s hs (by omega)]
theorem takeL_ech {T : Tb} {n : Nat} (hz : Zer T) (hv : Vers T n) : ∀ (L : List Nat) (M : Tb), Ech M T → (∀ x ∈ L, x < 32) → Ech (takeL M (tcs T L)) T ∧ (∀ x ∈ L, takeL M (tcs T L) x = T x) ∧ ∀ k, k < 32 → M k = T k → takeL M (tcs T L) k = T k
  | [], M, h, _ => ⟨h, fun x hx => by simp at hx, fun _ _ e => e⟩
  | s :: L, M, h, hl => by
    obtain ⟨a1, a2, a3⟩ := take_ech h hz hv (hl s (by simp))
    obtain ⟨b1, b2, b3⟩ := takeL_ech hz hv L (takeT M ⟨s, T s⟩) a1 (fun x hx => hl x (by simp [hx]))
    have e : takeL M (tcs T (s :: L)) = takeL (takeT M ⟨s, T s⟩) (tcs T L) := rfl
    rw [e]
    refine ⟨b1, fun x hx => ?_, fun k hk he => b3 k hk (a3 k hk he)⟩
    rcases List.mem_cons.1 hx with rfl | hx
    · exact b3 _ (hl _ (by simp)) a2
    · exact b2 x hx
/-- the last n slots ahead of the cursor are the table's. -/
def Cov (M T : Tb) (c n : Nat) : Prop := ∀ r, r < n → r < 32 → M ((c + 31 - r) % 32) = T ((c + 31 - r) % 32)
theorem Cov.all {M T : Tb} {c n : Nat} (h : Cov M T c n) (hn : 32 ≤ n) (k : Nat) (hk : k < 32) : M k = T k := by
  have := h ((c + 31 - k) % 32) (by omega) (by omega)
  rw [show (c + 31 - (c + 31 - k) % 32) % 32 = k from by omega] at this
  exact this
theorem wk_run (c : Nat) : ∀ j, j ≤ 32 → (wk [] c j).length = j
  | 0, _ => rfl
  | j + 1, h => by
    have ih := wk_run c j (by omega)
    have hn : ¬ (c + j) % 32 ∈ wk [] c j := fun hm => by
      rcases (wk_mem _ _ _ _).1 hm with h1 | ⟨i, hi, e⟩
      · simp at h1
      · omega
    rw [wk_out hn, List.length_append, ih]
    rfl
theorem Nx.quiet {T : Tb} {D : To} {c : Nat} {L : List Nat} {c1 : Nat} (h : Nx T D c L c1) (h0 : newsL T D = []) : c1 = (c + 8) % 32 ∧ ∀ i, i < 8 → (c + i) % 32 ∈ L := by
  obtain ⟨j, hj, rfl, rfl⟩ := h.ex
  rw [h0] at hj ⊢
  have e8 : j = 8 := hj.one (i := j) (j := 8) ⟨fun i hi => by rw [List.take_nil, wk_run c i (by omega)]; exact hi, by rw [List.take_nil, wk_run c 8 (by omega)]; omega⟩
  subst e8
  exact ⟨rfl, fun i hi => (wk_mem _ _ _ _).2 (.inr ⟨i, hi, rfl⟩)⟩
/-- how it stands behind so many batches that were heard. -/
structure Hrd (T : Tb) (D : To) (c : Nat) (M : Tb) (i : Nat) : Prop where
  lag : (newsL T D).length ≤ 32 - 8 * i
  ech : Ech M T
  cov : Cov M T c (8 * (i - 4))
theorem Hrd.start (T : Tb) (D : To) (c : Nat) : Hrd T D c newT 0 := ⟨newsL_len T D, Ech.new T, fun r h => by omega⟩
theorem Hrd.next {T : Tb} {D : To} {c : Nat} {M : Tb} {i n : Nat} {L : List Nat} {c1 : Nat} (h : Hrd T D c M i) (hx : Nx T D c L c1) (hc : c < 32) (hz : Zer T) (hv : Vers T n) : Hrd T (toldD T D L) c1 (takeL M (tcs T L)) (i + 1) := by
  obtain ⟨a1, a2, a3⟩ := takeL_ech hz hv L M h.ech hx.lt
  refine ⟨?_, a1, ?_⟩
  · rw [hx.news, List.length_drop]
    have := h.lag
    omega
  · by_cases h4 : 4 ≤ i
    · have h0 : newsL T D = [] := List.length_eq_zero_iff.1 (by have := h.lag; omega)
      obtain ⟨rfl, hL⟩ := hx.quiet h0
      intro r hr hr2
      by_cases h8 : r < 8
      · have := hL (7 - r) (by omega)
        rw [show (c + (7 - r)) % 32 = ((c + 8) % 32 + 31 - r) % 32 from by omega] at this
        exact a2 _ this
      · have hc2 := h.cov (r - 8) (by omega) (by omega)
        rw [show (c + 31 - (r - 8)) % 32 = ((c + 8) % 32 + 31 - r) % 32 from by omega] at hc2
        exact a3 _ (by omega) hc2
    · intro r hr
      omega
theorem Hrd.all {T : Tb} {D : To} {c : Nat} {M : Tb} (h : Hrd T D c M 9) : newsL T D = [] ∧ ∀ k, k < 32 → M k = T k :=
  ⟨List.length_eq_zero_iff.1 (by have := h.lag; omega), fun k hk => h.cov.all (by omega) k hk⟩
theorem tcs_len (T : Tb) (L : List Nat) : (tcs T L).length = L.length := by simp [tcs]
theorem tcs_ok {T : Tb} {L : List Nat} (h : ∀ x ∈ L, x < 32) : ((tcs T L).any fun x => !okS x) = false := by
  rw [List.any_eq_false]
  intro x hx
  simp only [tcs, List.mem_map] at hx
  obtain ⟨s, hs, rfl⟩ := hx
  have : okS ⟨(s : Int), T s⟩ = true := okS_iff.2 ⟨by simp only; omega, by have := h s hs; simp only; omega⟩
  simp [this]
/-- a batch told to a mirror of life 1, or of none. -/
theorem tell_batch {T M : Tb} {L : List Nat} {old : Int} (h8 : L.length = 8) (hl : ∀ x ∈ L, x < 32) (h : old = 1 ∨ (old = 0 ∧ M = newT)) : tellE old 1 (tcs T L) = 0 ∧ tellLife old 1 (tcs T L) = 1 ∧ tellT old 1 M (tcs T L) = takeL M (tcs T L) := by
  have hE : tellE old 1 (tcs T L) = 0 := by
    unfold tellE
    rw [if_neg, if_neg]
    · rcases h with rfl | ⟨rfl, _⟩ <;> omega
    · rw [tcs_ok hl, tcs_len]
      simp
      omega
  refine ⟨hE, by unfold tellLife; rw [if_pos hE], ?_⟩
  unfold tellT
  rw [if_pos hE]
  rcases h with rfl | ⟨rfl, rfl⟩ <;> simp
end Go.Proofs.YtpajlmmdnbdieaaGreatDoor

namespace Go.Proofs.YtpajlmmdnbdieaaGreatDoor
open Go.RowKit

/-- what is the same in both. -/
structure Same (x x' : No) : Prop where
  ro : x'.ro = x.ro
  id : x'.id = x.id
  life : x'.life = x.life
  now : x'.now = x.now
  ru : x'.ru = x.ru
  off : x'.off = x.off
  y : x'.y = x.y
  D : x'.D = x.D
  cu : x'.cu = x.cu
  ml : x'.ml = x.ml
  mt : x'.mt = x.mt
def VeP (T : Tb) (n : Nat) : Prop := ∀ j, j < n → 0 < (T j).ve
theorem VeP.set {T : Tb} {n : Nat} (h : VeP T n) (k st un : Int) : VeP (setT T k st un) n := fun j hj => by
  unfold setT
  split
  · unfold upd
    split
    · rename_i e; subst e; have := h _ hj; show 0 < (T k.toNat).ve + 1; omega
    · exact h j hj
  · exact h j hj
section
variable {ds : List (Int × Int)} {pr fa fp low : Int} {Q : Int → Int → Prop} {l : List Rl} {now : Nat} {x : No}
theorem Bn.inside (b : Bn ds pr fa fp low Q l now x) (v : VeP x.T ds.length) (e : Int × Int) (fl : Int) (hp : (⟨pr, e.1, e.2, fa, fp, fl⟩ : Pk).err = 0) (hp0 : pr ≠ 0) (hb : bgnE pr fl = 0) (ha : adm l pr true fp = true)
    (hg : nxtG pr fl = false) (hs : ∀ st un, Q st un → nxtS pr st fl true = st ∧ Q st (now + stay pr st)) (hq : Q (bgnS pr fl) (now + stay pr (bgnS pr fl))) (hl : ds.length < 24) :
    ∃ (ds' : List (Int × Int)) (j : Nat), x.inE ⟨pr, e.1, e.2, fa, fp, fl⟩ = 0 ∧ x.inP ⟨pr, e.1, e.2, fa, fp, fl⟩ = ⟨pr, 1, low + j, fa, fp, fl⟩ ∧ (ds' = ds ∨ ds' = ds ++ [e]) ∧ ds'[j]? = some e ∧ Bn ds' pr fa fp low Q l now (x.ins ⟨pr, e.1, e.2, fa, fp, fl⟩) ∧ VeP (x.ins ⟨pr, e.1, e.2, fa, fp, fl⟩).T ds'.length ∧ Same x (x.ins ⟨pr, e.1, e.2, fa, fp, fl⟩) := by
  generalize hpe : (⟨pr, e.1, e.2, fa, fp, fl⟩ : Pk) = p at hp
  have hpr : p.pr = pr := by rw [← hpe]
  have hfl : p.fl = fl := by rw [← hpe]
  have hck : x.chk p = 0 := by unfold No.chk; rw [if_pos hp, b.ac]; rfl
  have hle := b.le
  by_cases he : e ∈ ds
  · obtain ⟨j, hj, hje⟩ := List.mem_iff_getElem.1 he
    have hje' : ds[j]? = some e := by rw [List.getElem?_eq_getElem hj, hje]
    have hfn : x.fnd p = some j := by unfold No.fnd; rw [← hpe]; exact b.T.find hp0 (by omega) b.nd hje'
    obtain ⟨ve, st, un, hT, hQ⟩ := (b.T j).1 e hje'
    have hie : x.inE p = 0 := by unfold No.inE No.ouE; rw [if_pos hck, hfn]
    have hip : x.inP p = ⟨pr, 1, low + j, fa, fp, fl⟩ := by
      unfold No.inP No.ouF
      rw [if_pos hie, hfn]
      simp only [hT]
      rw [← hpe]
    obtain ⟨hs1, hs2⟩ := hs st un hQ
    have hns : x.nst j fl true = st := by unfold No.nst; rw [hT]; exact hs1
    have hin : x.ins p = { x with T := setT x.T j st (now + stay pr st) } := by
      unfold No.ins No.ou
      rw [if_pos hck, hfn]
      simp only [No.stp]
      rw [hfl, hns, hT]
      simp only [hg]
      rw [if_neg (by simp), b.nw]
    rw [hin]
    exact ⟨ds, j, hie, hip, .inl rfl, hje', ⟨b.ac, b.nw, b.lo, b.T.set hp0 (by omega) hj hs2, b.ru, b.nd, b.le⟩, v.set _ _ _, ⟨rfl, rfl, rfl, rfl, rfl, rfl, rfl, rfl, rfl, rfl, rfl⟩⟩
  · have hfn : x.fnd p = none := by unfold No.fnd; rw [← hpe]; exact b.T.miss he
    obtain ⟨T', hadd, hT', ve, hTl⟩ := b.T.add hp0 hl he hq
    have haddR : x.addR p = (ds.length, 0, T') := by
      unfold No.addR
      rw [← hpe, b.lo, b.nw]
      exact hadd
    have hbe : x.bgE p = 0 := by
      unfold No.bgE
      rw [b.ru, haddR, hpr, hfl, show p.p2 = fp from by rw [← hpe], ha, if_pos rfl, if_pos hb]
    have hou : x.ouE p = 0 := by unfold No.ouE; rw [hfn]; exact hbe
    have hie : x.inE p = 0 := by unfold No.inE; rw [if_pos hck]; exact hou
    have hip : x.inP p = ⟨pr, 1, low + ds.length, fa, fp, fl⟩ := by
      unfold No.inP No.ouF
      rw [if_pos hie, hfn]
      simp only [No.bgF]
      rw [if_pos hbe, haddR]
      simp only [hTl]
      rw [← hpe]
    have hin : x.ins p = { x with T := T' } := by
      unfold No.ins No.ou
      rw [if_pos hck, hfn]
      simp only [No.bg]
      rw [if_pos hbe, haddR]
    have hve : VeP T' (ds ++ [e]).length := by
      have h1 := b.T.miss he
      have h2 := b.T.free hp0 (by omega)
      have h3 : freeP x.T low pr fa fp = some ds.length := by
        rw [freeP_some]
        exact ⟨hl, b.T.noback (Nat.le_refl _), fun j hj => by rw [b.T.back hp0 (by omega) hj]; rfl⟩
      have hT2 : T' = layT x.T ds.length pr e.1 e.2 fa fp (low + ds.length) (bgnS pr fl) (now + stay pr (bgnS pr fl)) := by
        have := hadd
        unfold addT at this
        rw [h1, h2, h3] at this
        exact ((Prod.mk.inj (Prod.mk.inj this).2).2).symm
      intro j hj
      rw [List.length_append, List.length_singleton] at hj
      rw [hT2]
      unfold layT upd
      split
      · rename_i e3
        rw [(b.T ds.length).2 (Nat.le_refl _)]
        show (0 : Int) < noC.ve + 1
        decide
      · exact v j (by omega)
    rw [hin]
    exact ⟨ds ++ [e], ds.length, hie, hip, .inr rfl, by simp, ⟨b.ac, b.nw, b.lo, hT', b.ru, List.nodup_append.2 ⟨b.nd, by simp, fun a ha c hc => by simp at hc; rw [hc]; exact fun e2 => he (e2 ▸ ha)⟩, by simp; omega⟩, hve, ⟨rfl, rfl, rfl, rfl, rfl, rfl, rfl, rfl, rfl, rfl, rfl⟩⟩
end
theorem filt_len (p : Nat → Bool) (n : Nat) (hp : ∀ i, p i = true → i < n) : ∀ m, ((List.range m).filter p).length ≤ min m n
  | 0 => by simp
  | m + 1 => by
    have ih := filt_len p n hp m
    rw [List.range_succ, List.filter_append, List.length_append]
    cases hm : p m
    · rw [List.filter_cons_of_neg (by rw [hm]; simp), List.filter_nil, List.length_nil]; omega
    · have := hp m hm
      rw [List.filter_cons_of_pos hm, List.filter_nil, List.length_singleton]; omega
theorem takeL_far (T : Tb) : ∀ (L : List Nat) (M : Tb), (∀ x ∈ L, x < 32) → ∀ k, 32 ≤ k → takeL M (tcs T L) k = M k
  | [], _, _, _, _ => rfl
  | a :: L, M, h, k, hk => by
    show takeL (takeT M ⟨(a : Int), T a⟩) (tcs T L) k = M k
    rw [takeL_far T L _ (fun x hx => h x (by simp [hx])) k hk]
    have := h a (by simp)
    unfold takeT
    split
    · unfold upd
      rw [if_neg (by show ¬ k = (a : Int).toNat; omega)]
    · rfl
/-- told in one batch, a mirror has the table. -/
theorem mir_all {T : Tb} {ds : List (Int × Int)} {pr fa fp low : Int} {Q : Int → Int → Prop} {m c : Nat} (h : BkT T ds pr fa fp low Q) (_hp0 : pr ≠ 0) (v : VeP T ds.length) (hv : Vers T m) (h8 : ds.length ≤ 8) : takeL newT ((nxL T (fun _ => 0) c).map fun (j : Nat) => (⟨(j : Int), T j⟩ : Tc)) = T := by
  have hz : Zer T := fun k hk he => by
    rcases Nat.lt_or_ge k ds.length with a | a
    · have := v k a; omega
    · exact (h k).2 a
  have hx := nx_spec T (fun _ => 0) c
  obtain ⟨e1, e2, e3⟩ := takeL_ech hz hv (nxL T (fun _ => 0) c) newT (Ech.new T) hx.lt
  have hnews : ∀ k, k < ds.length → k ∈ nxL T (fun _ => 0) c := fun k hk => by
    obtain ⟨j, hf, hL, _⟩ := hx.ex
    rw [hL, wk_mem]
    refine .inl ?_
    have hlen : (newsL T (fun _ => 0)).length ≤ 8 := by
      have hcore : ∀ i, ((T i).ve != 0) = true → i < ds.length := fun i hi => by
        rcases Nat.lt_or_ge i ds.length with a | a
        · exact a
        · rw [(h i).2 a] at hi; simp [noC] at hi
      have := filt_len (fun i => (T i).ve != 0) ds.length hcore 32
      have e : newsL T (fun _ => 0) = (List.range 32).filter fun i => (T i).ve != 0 := rfl
      rw [e]
      omega
    rw [List.take_of_length_le hlen, newsL_mem]
    have := v k hk
    exact ⟨by omega, by omega⟩
  funext k
  show takeL newT (tcs T (nxL T (fun _ => 0) c)) k = T k
  rcases Nat.lt_or_ge k 32 with a | a
  · rcases Nat.lt_or_ge k ds.length with a2 | a2
    · exact e2 k (hnews k a2)
    · rcases e1 k a with q | q
      · exact q
      · rw [q, (h k).2 a2]
  · rw [takeL_far T _ _ hx.lt k a, (h k).2 (by omega)]
    rfl
/-- flows that are adopted one by one: the same ends by the same ports. -/
theorem flL_bk {T : Tb} {ds : List (Int × Int)} {pr fa fp low : Int} {Q : Int → Int → Prop} (h : BkT T ds pr fa fp low Q) (hp0 : pr ≠ 0) : ∀ n, ∃ cs : List Ce, flL T n = cs ∧ cs.length = min n ds.length ∧ ∀ i c, cs[i]? = some c → c = T i
  | 0 => ⟨[], rfl, by simp, fun i c hc => by simp at hc⟩
  | n + 1 => by
    obtain ⟨cs, e1, e2, e3⟩ := flL_bk h hp0 n
    rcases Nat.lt_or_ge n ds.length with a | a
    · obtain ⟨ve, st, un, q, _⟩ := (h n).1 _ (List.getElem?_eq_getElem a)
      refine ⟨cs ++ [T n], by unfold flL; rw [if_neg (by rw [q]; exact hp0), e1], by rw [List.length_append, e2, List.length_singleton]; omega, fun i c hc => ?_⟩
      rcases Nat.lt_or_ge i cs.length with b | b
      · rw [List.getElem?_append_left b] at hc; exact e3 i c hc
      · rw [List.getElem?_append_right b] at hc
        have : i = n := by
          have := (List.getElem?_eq_some_iff.1 hc).1
          simp at this
          omega
        subst this
        rw [e2, show i - min i ds.length = 0 by omega] at hc
        cases hc
        rfl
    · exact ⟨cs, by unfold flL; rw [if_pos (by rw [(h n).2 a]; rfl), e1], by omega, e3⟩
theorem ad_bk {T : Tb} {ds : List (Int × Int)} {pr fa fp low : Int} {Q : Int → Int → Prop} (h : BkT T ds pr fa fp low Q) (hp0 : pr ≠ 0) (hd : ds.Nodup) (h24 : ds.length ≤ 24) (now : Int) : ∀ n, n ≤ ds.length → BkT (adT now newT (((List.range n).map fun i => T i))) (ds.take n) pr fa fp low (fun _ _ => True)
  | 0, _ => by show BkT newT [] pr fa fp low _; exact BkT.new
  | n + 1, hn => by
    have ih := ad_bk h hp0 hd h24 now n (by omega)
    have hlen : (ds.take n).length = n := by rw [List.length_take]; omega
    rw [List.range_succ, List.map_append, List.map_singleton, adT_snoc]
    generalize adT now newT ((List.range n).map fun i => T i) = U at ih
    have hget : ds[n]? = some ds[n] := List.getElem?_eq_getElem (by omega)
    obtain ⟨ve, st, un, q, _⟩ := (h n).1 _ hget
    rw [q]
    have hmiss : ¬ ds[n] ∈ ds.take n := fun hm => by
      obtain ⟨i, hi, he⟩ := List.mem_iff_getElem.1 hm
      rw [hlen] at hi
      have he2 : ds[i]? = some ds[n] := by rw [List.getElem_take] at he; rw [List.getElem?_eq_getElem (by omega), he]
      have := (List.getElem?_inj (by omega) hd).1 (he2.trans hget.symm)
      omega
    have h1 := ih.miss hmiss
    have h2 := ih.noback (j := n) (by omega)
    have h3 := ih.free hp0 (by omega)
    have hput : (putT U pr ds[n].1 ds[n].2 fa fp (low + n) st (now + stay pr st)).2.2 = layT U n pr ds[n].1 ds[n].2 fa fp (low + n) st (now + stay pr st) := by
      unfold putT
      rw [h1, h2, h3, hlen]
    show BkT (putT U pr ds[n].1 ds[n].2 fa fp (low + n) st (now + stay pr st)).2.2 _ pr fa fp low _
    rw [hput]
    have htk : ds.take (n + 1) = ds.take n ++ [ds[n]] := by rw [List.take_add_one, hget]; rfl
    rw [htk]
    intro j
    refine ⟨fun e' he' => ?_, fun hj => ?_⟩
    · rcases Nat.lt_trichotomy j n with a | a | a
      · rw [List.getElem?_append_left (by omega)] at he'
        unfold layT
        rw [upd_other _ _ (by omega)]
        exact (ih j).1 e' he'
      · subst a
        rw [List.getElem?_append_right (by omega), hlen, Nat.sub_self] at he'
        simp at he'
        subst he'
        unfold layT
        rw [upd_same]
        exact ⟨_, st, _, rfl, trivial⟩
      · rw [List.getElem?_eq_none (by simp; omega)] at he'
        cases he'
    · rw [List.length_append, hlen, List.length_singleton] at hj
      unfold layT
      rw [upd_other _ _ (by omega)]
      exact (ih j).2 (by omega)
/-- the table that is adopted from a mirror. -/
theorem ad_all {T : Tb} {ds : List (Int × Int)} {pr fa fp low : Int} {Q : Int → Int → Prop} (h : BkT T ds pr fa fp low Q) (hp0 : pr ≠ 0) (hd : ds.Nodup) (h24 : ds.length ≤ 24) (now : Int) : BkT (adT now newT (flL T 32)) ds pr fa fp low (fun _ _ => True) := by
  obtain ⟨cs, e1, e2, e3⟩ := flL_bk h hp0 32
  have e : flL T 32 = (List.range ds.length).map fun i => T i := by
    rw [e1]
    refine List.ext_getElem? fun i => ?_
    rw [List.getElem?_map]
    rcases Nat.lt_or_ge i ds.length with a | a
    · rw [List.getElem?_range a, List.getElem?_eq_getElem (by omega)]
      exact congrArg some (e3 i _ (List.getElem?_eq_getElem (by omega)))
    · rw [List.getElem?_eq_none (by omega), List.getElem?_eq_none (by simp; omega)]
      rfl
  rw [e]
  have := ad_bk h hp0 hd h24 now ds.length (Nat.le_refl _)
  rw [List.take_length] at this
  exact this
/-- what comes back. -/
theorem bk_outside {ds : List (Int × Int)} {pr fa fp low : Int} {x : No} (hac : x.ro.ac = true) (hT : BkT x.T ds pr fa fp low (fun _ _ => True)) (h24 : ds.length ≤ 24) {j : Nat} {e : Int × Int} (he : ds[j]? = some e) (fl : Int) (hp : (⟨pr, fa, fp, 1, low + j, fl⟩ : Pk).err = 0) (hp0 : pr ≠ 0) (hg : nxtG pr fl = false) :
    x.otE ⟨pr, fa, fp, 1, low + j, fl⟩ = 0 ∧ x.otP ⟨pr, fa, fp, 1, low + j, fl⟩ = ⟨pr, fa, fp, e.1, e.2, fl⟩ ∧ BkT (x.ots ⟨pr, fa, fp, 1, low + j, fl⟩).T ds pr fa fp low (fun _ _ => True) ∧ (x.ots ⟨pr, fa, fp, 1, low + j, fl⟩).ro = x.ro := by
  generalize hpe : (⟨pr, fa, fp, 1, low + j, fl⟩ : Pk) = p at hp
  have hpr : p.pr = pr := by rw [← hpe]
  have hfl : p.fl = fl := by rw [← hpe]
  have hck : x.chk p = 0 := by unfold No.chk; rw [if_pos hp, hac]; rfl
  obtain ⟨hj, _⟩ := List.getElem?_eq_some_iff.1 he
  have hbk : x.bck p = some j := by unfold No.bck; rw [← hpe]; exact hT.back hp0 (by omega) hj
  have hotj : x.otJ p = some j := by unfold No.otJ; rw [if_pos hck, if_pos (by rw [← hpe]), hbk]
  obtain ⟨ve, st, un, hTj, _⟩ := (hT j).1 e he
  have hoe : x.otE p = 0 := by unfold No.otE; rw [if_pos hck, if_pos (by rw [← hpe]), hbk]
  have hop : x.otP p = ⟨pr, fa, fp, e.1, e.2, fl⟩ := by
    unfold No.otP
    rw [hotj]
    simp only [hTj]
    rw [← hpe]
  have hin : x.ots p = { x with T := setT x.T j (x.nst j fl false) (x.now + stay pr (x.nst j fl false)) } := by
    unfold No.ots
    rw [hotj]
    simp only [No.stp]
    rw [hfl, hTj]
    simp only [hg]
    rw [if_neg (by simp)]
  rw [hin]
  exact ⟨hoe, hop, hT.set hp0 (by omega) hj trivial, rfl⟩
end Go.Proofs.YtpajlmmdnbdieaaGreatDoor

namespace Go.Proofs.YtpajlmmdnbdieaaGreatDoor
open Go.RowKit

/-- a node that hears nothing more, and has a mirror: what its ticks make of it. -/
structure Qm (id ep life : Nat) (y : By) (M : Tb) (l : List Rl) (j : Nat) (x : No) : Prop where
  ro : x.ro = roQ id ep j
  ii : x.id = id
  li : x.life = life
  now : x.now = j
  T : x.T = if j ≤ 9 then newT else adT 10 newT (flL M 32)
  mt : x.mt = M
  off : x.off = false
  yy : x.y = yQ id ep life y j
  ru : x.ru = l
theorem Qm.noted {id ep life : Nat} {y : By} {M : Tb} {l : List Rl} {j : Nat} {x : No} (h : Qm id ep life y M l j x) : Qm id ep life y M l j x.noted := by
  unfold No.noted
  split
  · exact ⟨h.ro, h.ii, h.li, h.now, h.T, h.mt, h.off, h.yy, h.ru⟩
  · exact h
theorem Qm.tick {id ep life : Nat} {y : By} {M : Tb} {l : List Rl} {j : Nat} {x : No} (h : Qm id ep life y M l j x) (hj : j ≤ 9) (hep : ep + 2 ≤ 1073741824) (hp : (putE false y (Ro.new id ep).nx life).1 = 0) :
    x.tkE = 0 ∧ Qm id ep life y M l (j + 1) x.tick := by
  have hT : x.ticked.T = newT := by show expT x.T _ 32 = _; rw [h.T, if_pos hj, expT_new]
  have hN : x.ticked.now = (j + 1 : Nat) := by show x.now + 1 = _; rw [h.now]; omega
  have hr : x.ro = ⟨id, ep, j, false⟩ := by rw [h.ro]; unfold roQ; rw [if_pos hj]
  have htk : x.ro.tick = ⟨id, ep, j + 1, false⟩ := by
    rw [hr]
    show (⟨id, ep, if (j : Int) ≤ 9 then (j : Int) + 1 else j, false⟩ : Ro) = _
    rw [if_pos (by omega)]
  have hri : x.ro.rings = decide (9 < (j : Int) + 1) := by
    rw [hr]
    show decide (9 < (if (j : Int) ≤ 9 then (j : Int) + 1 else j)) = _
    rw [if_pos (by omega)]
  by_cases h8 : j = 9
  · subst h8
    have hring : x.ro.rings = true := by rw [hri]; decide
    have hnxe : x.ro.tick.nxE = 0 := by
      rw [htk]
      have := (Ro.nx_lt (r := ⟨id, ep, (9 : Nat) + 1, false⟩))
      unfold Ro.nxE
      rw [if_neg]
      simp only at this
      omega
    have hnx : x.ro.tick.nxV = (Ro.new id ep).nx := by
      have h2 : ¬ 1073741824 < x.ro.tick.nx := by
        intro q; unfold Ro.nxE at hnxe; rw [if_pos q] at hnxe; cases hnxe
      unfold Ro.nxV
      rw [if_neg h2, htk]
      rfl
    have hcp : x.ticked.cp = putE false y (Ro.new id ep).nx life := by
      show putE x.off x.y x.ro.tick.nxV x.life = _
      rw [h.off, h.yy, hnx, h.li]
      rfl
    have hclm : x.ticked.clm = { x.ticked with y := x.ticked.cp.2.1, off := x.ticked.cp.2.2, T := adT x.ticked.now x.ticked.T (flL x.ticked.mt 32), ro := x.ticked.ro.claim x.ticked.ro.nxV } := by
      unfold No.clm
      rw [if_pos (show x.ticked.ro.nxE = 0 from hnxe), if_pos (by rw [hcp]; exact hp)]
    have hcle : x.ticked.clE = 0 := by
      unfold No.clE
      rw [if_pos (show x.ticked.ro.nxE = 0 from hnxe), hcp]
      exact hp
    have hE : x.tkE = 0 := by unfold No.tkE; rw [hring]; exact hcle
    refine ⟨hE, ?_⟩
    have ht : x.tick = x.ticked.clm.noted := by unfold No.tick No.tk1; rw [hE, hring]; rfl
    rw [ht]
    refine Qm.noted ?_
    rw [hclm]
    refine ⟨?_, h.ii, h.li, hN, ?_, h.mt, ?_, ?_, h.ru⟩
    · show x.ro.tick.claim x.ro.tick.nxV = _
      have hc : x.ro.tick.clE x.ro.tick.nxV = 0 := Ro.clE_ok (by rw [htk]) hnxe
      unfold Ro.claim
      rw [if_pos hc, hnx, htk]
      rfl
    · show adT x.ticked.now x.ticked.T (flL x.mt 32) = _
      rw [h.mt, hT, hN, if_neg (by omega)]
      rfl
    · show x.ticked.cp.2.2 = _
      rw [hcp]
      exact putE_off hp
    · show x.ticked.cp.2.1 = _
      rw [hcp]
      rfl
  · have hring : x.ro.rings = false := by rw [hri]; exact decide_eq_false (by omega)
    have hE : x.tkE = 0 := by unfold No.tkE; rw [hring]; rfl
    refine ⟨hE, ?_⟩
    have ht : x.tick = x.ticked.noted := by unfold No.tick No.tk1; rw [hE, hring]; rfl
    rw [ht]
    refine Qm.noted ⟨?_, h.ii, h.li, hN, by rw [if_pos (by omega)]; exact hT, h.mt, h.off, ?_, h.ru⟩
    · show x.ro.tick = _
      rw [htk]
      unfold roQ
      rw [if_pos (by omega)]
      simp
    · show x.y = _
      rw [h.yy]
      unfold yQ
      rw [if_pos hj, if_pos (by omega)]
/-- the notes of a tick of a node that has just claimed, or hasn't. -/
theorem Qm.notes {id ep life : Nat} {y : By} {M : Tb} {l : List Rl} {j : Nat} {x : No} (h : Qm id ep life y M l j x) (hj : j ≤ 9) (hE : x.tkE = 0) (h' : Qm id ep life y M l (j + 1) x.tick) : x.tickL.map x.tk1.fly = (if j ≤ 8 then [] else [⟨id, life, (Ro.new id ep).nx, true, []⟩]) ∧ x.ro.ac = false ∧ x.tick.ro.ac = !decide (j ≤ 8) ∧ x.tick.ro.ep = (if j ≤ 8 then (ep : Int) else (Ro.new id ep).nx) := by
  have sm := tick_same x
  have hT1 := sm.2.2.2.2.2
  have hxa : x.ro.ac = false := by rw [h.ro]; unfold roQ; rw [if_pos hj]
  have hnow : x.tk1.now = ((j + 1 : Nat) : Int) := by rw [(tk1_same x).1, h.now]; omega
  by_cases h9 : j = 9
  · subst h9
    have hro : x.tick.ro = ⟨id, (Ro.new id ep).nx, 10, true⟩ := by
      rw [h'.ro]
      unfold roQ
      rw [if_neg (by omega)]
    have hL : x.tickL = [⟨true, []⟩] := by
      unfold No.tickL No.notes
      rw [if_pos hE, ← hT1, hro, hxa]
      have hd : x.tk1.due = false := by unfold No.due; rw [hnow]; decide
      rw [hd]
      rfl
    refine ⟨?_, hxa, by rw [hro]; rfl, by rw [hro, if_neg (by omega)]⟩
    rw [hL, if_neg (by omega)]
    show [x.tk1.fly ⟨true, []⟩] = _
    unfold No.fly
    rw [sm.2.2.2.2.1, h.ii, (tk1_same x).2.1, h.li, ← hT1, hro]
    rfl
  · have hro : x.tick.ro = ⟨id, (ep : Int), ((j + 1 : Nat) : Int), false⟩ := by
      rw [h'.ro]
      unfold roQ
      rw [if_pos (by omega)]
    have hL : x.tickL = [] := by
      unfold No.tickL No.notes
      rw [if_pos hE, ← hT1, hro]
      rfl
    have h8 : j ≤ 8 := by omega
    refine ⟨by rw [hL, if_pos h8]; rfl, hxa, by rw [hro, decide_eq_true h8]; rfl, by rw [hro, if_pos h8]⟩
end Go.Proofs.YtpajlmmdnbdieaaGreatDoor

namespace Go.Proofs.YtpajlmmdnbdieaaGreatDoor
open Go.RowKit

def ruL : List Rl := [⟨true, true, 0, 1, 65535⟩]
theorem ruL_ok : RulesOk ruL := ⟨by decide, by decide⟩
theorem ruL_sl (w : World) : Sl (w.alloc (.cells #[.bool true, .bool true, .int .i64 0, .int .i64 1, .int .i64 65535] 32)) (.slice (some ⟨w.heap.size, 0, none⟩) 1 1) ruL := by
  refine Or.inr ⟨_, 1, rfl, by decide, by unfold maxLen; omega, fun i r hr => ?_⟩
  match i, hr with
  | 0, hr =>
    obtain rfl : (⟨true, true, 0, 1, 65535⟩ : Rl) = r := by simpa [ruL] using hr
    exact ⟨w.heap.size, 0, rfl, (nw _ _ _ _).trans rfl, (nw _ _ _ _).trans rfl, (nw _ _ _ _).trans rfl, (nw _ _ _ _).trans rfl, (nw _ _ _ _).trans rfl⟩
  | i + 1, hr => simp [ruL] at hr
theorem adm_one {pr p : Int} (h1 : 1 ≤ p) (h2 : p ≤ 65535) : adm ruL pr true p = true := by
  have : (⟨true, true, 0, 1, 65535⟩ : Rl).has pr true p = true := has_iff.2 ⟨rfl, Or.inl rfl, h1, h2⟩
  unfold ruL adm
  rw [if_pos this]
end Go.Proofs.YtpajlmmdnbdieaaGreatDoor
