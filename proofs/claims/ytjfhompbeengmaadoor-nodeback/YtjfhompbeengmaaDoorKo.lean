/-
  Texts in one: NtZ NkM RuL.
-/
import Derived.Test.YtjfhompbeengmaaDoorNoM
import Derived.Test.YtjfhompbeengmaaDoorKi
import Derived.Test.YtjfhompbeengmaaDoorKj
namespace Go.Proofs.YtjfhompbeengmaaDoor
open Go.RowKit

theorem act_tick {x : No} (h : x.ro.ac = true) : x.tkE = 0 ∧ x.tick = x.ticked.noted ∧ x.ticked.ro.ac = true := by
  have hr : x.ro.rings = false := by unfold Ro.rings; rw [h]; rfl
  have hE : x.tkE = 0 := by unfold No.tkE; rw [hr]; rfl
  have ht : x.tick = x.ticked.noted := by unfold No.tick No.tk1; rw [hE, hr]; rfl
  refine ⟨hE, ht, ?_⟩
  show x.ro.tick.ac = true
  unfold Ro.tick
  rw [h]
  exact h
theorem noted_T (x : No) : x.noted.T = x.T := by unfold No.noted; split <;> rfl
end Go.Proofs.YtjfhompbeengmaaDoor

namespace Go.Proofs.YtjfhompbeengmaaDoor
open Go.RowKit

/-- a table of these ends' flows, by ports from low on; of state and time Q holds. -/
def BkT (T : Tb) (ds : List (Int × Int)) (pr fa fp low : Int) (Q : Int → Int → Prop) : Prop :=
  ∀ j, (∀ e, ds[j]? = some e → ∃ ve st un, T j = ⟨ve, pr, e.1, e.2, fa, fp, low + j, st, un⟩ ∧ Q st un) ∧ (ds.length ≤ j → T j = noC)
section
variable {T : Tb} {ds : List (Int × Int)} {pr fa fp low : Int} {Q : Int → Int → Prop}
theorem BkT.new : BkT newT [] pr fa fp low Q := fun j => ⟨fun e h => by simp at h, fun _ => rfl⟩
theorem BkT.at (h : BkT T ds pr fa fp low Q) (j : Nat) : T j = noC ∧ ds.length ≤ j ∨ ∃ e ve st un, ds[j]? = some e ∧ T j = ⟨ve, pr, e.1, e.2, fa, fp, low + j, st, un⟩ ∧ Q st un := by
  rcases Nat.lt_or_ge j ds.length with a | a
  · have e := List.getElem?_eq_getElem a
    obtain ⟨ve, st, un, q⟩ := (h j).1 _ e
    exact .inr ⟨_, ve, st, un, e, q⟩
  · exact .inl ⟨(h j).2 a, a⟩
theorem BkT.find (h : BkT T ds pr fa fp low Q) (hp : pr ≠ 0) (hl : ds.length ≤ 32) (hd : ds.Nodup) {j : Nat} {e : Int × Int} (he : ds[j]? = some e) : fst T (findQ pr e.1 e.2 fa fp) = some j := by
  obtain ⟨hj, _⟩ := List.getElem?_eq_some_iff.1 he
  rw [fst_some]
  refine ⟨by omega, ?_, fun i hi => ?_⟩
  · obtain ⟨ve, st, un, q, _⟩ := (h j).1 e he
    rw [q, findQ_iff]
    exact ⟨hp, rfl, rfl, rfl, rfl, rfl⟩
  · rw [Bool.eq_false_iff]
    intro hf
    obtain ⟨e', he'⟩ : ∃ e', ds[i]? = some e' := ⟨_, List.getElem?_eq_getElem (by omega)⟩
    obtain ⟨ve, st, un, q, _⟩ := (h i).1 e' he'
    rw [q, findQ_iff] at hf
    have e2 : e' = e := Prod.ext hf.2.2.1 hf.2.2.2.1
    subst e2
    have := (List.getElem?_inj (by omega) hd).1 (he'.trans he.symm)
    omega
theorem BkT.miss (h : BkT T ds pr fa fp low Q) {e : Int × Int} (he : ¬ e ∈ ds) : fst T (findQ pr e.1 e.2 fa fp) = none := by
  rw [fst_none]
  intro j hj
  rw [Bool.eq_false_iff]
  intro hf
  rcases h.at j with ⟨q, _⟩ | ⟨e', ve, st, un, he', q, _⟩
  · rw [q, findQ_iff] at hf; exact hf.1 rfl
  · rw [q, findQ_iff] at hf
    have e2 : e' = e := Prod.ext hf.2.2.1 hf.2.2.2.1
    exact he (e2 ▸ List.mem_of_getElem? he')
theorem BkT.back (h : BkT T ds pr fa fp low Q) (hp : pr ≠ 0) (hl : ds.length ≤ 32) {j : Nat} (hj : j < ds.length) : fst T (backQ pr (low + j) fa fp) = some j := by
  rw [fst_some]
  refine ⟨by omega, ?_, fun i hi => ?_⟩
  · obtain ⟨ve, st, un, q, _⟩ := (h j).1 _ (List.getElem?_eq_getElem hj)
    rw [q, backQ_iff]
    exact ⟨hp, rfl, rfl, rfl, rfl⟩
  · rw [Bool.eq_false_iff]
    intro hf
    obtain ⟨ve, st, un, q, _⟩ := (h i).1 _ (List.getElem?_eq_getElem (by omega))
    rw [q, backQ_iff] at hf
    have := hf.2.2.1
    simp only at this
    omega
theorem BkT.noback (h : BkT T ds pr fa fp low Q) {j : Nat} (hj : ds.length ≤ j) : fst T (backQ pr (low + j) fa fp) = none := by
  rw [fst_none]
  intro i hi
  rw [Bool.eq_false_iff]
  intro hf
  rcases h.at i with ⟨q, _⟩ | ⟨e', ve, st, un, he', q, _⟩
  · rw [q, backQ_iff] at hf; exact hf.1 rfl
  · rw [q, backQ_iff] at hf
    have := hf.2.2.1
    obtain ⟨hi', _⟩ := List.getElem?_eq_some_iff.1 he'
    simp only at this
    omega
theorem BkT.free (h : BkT T ds pr fa fp low Q) (hp : pr ≠ 0) (hl : ds.length < 32) : fst T freeQ = some ds.length := by
  rw [fst_some]
  refine ⟨hl, ?_, fun i hi => ?_⟩
  · rw [(h _).2 (Nat.le_refl _)]; rfl
  · obtain ⟨ve, st, un, q, _⟩ := (h i).1 _ (List.getElem?_eq_getElem hi)
    rw [q]
    simpa [freeQ] using hp
theorem BkT.add (h : BkT T ds pr fa fp low Q) (hp : pr ≠ 0) (hl : ds.length < 24) {e : Int × Int} (he : ¬ e ∈ ds) {st un : Int} (hq : Q st un) :
    ∃ T', addT T low pr e.1 e.2 fa fp st un = (ds.length, 0, T') ∧ BkT T' (ds ++ [e]) pr fa fp low Q ∧ ∃ ve, T' ds.length = ⟨ve, pr, e.1, e.2, fa, fp, low + ds.length, st, un⟩ := by
  have h1 := h.miss he
  have h2 := h.free hp (by omega)
  have h3 : freeP T low pr fa fp = some ds.length := by
    rw [freeP_some]
    exact ⟨hl, h.noback (Nat.le_refl _), fun j hj => by rw [h.back hp (by omega) hj]; rfl⟩
  refine ⟨layT T ds.length pr e.1 e.2 fa fp (low + ds.length) st un, ?_, fun j => ⟨fun e' he' => ?_, fun hj => ?_⟩, ⟨_, by unfold layT; rw [upd_same]⟩⟩
  · unfold addT; rw [h1, h2, h3]
  · rcases Nat.lt_trichotomy j ds.length with a | a | a
    · rw [List.getElem?_append_left a] at he'
      unfold layT
      rw [upd_other _ _ (by omega)]
      exact (h j).1 e' he'
    · subst a
      rw [List.getElem?_append_right (Nat.le_refl _)] at he'
      simp at he'
      subst he'
      unfold layT
      rw [upd_same]
      exact ⟨_, st, un, rfl, hq⟩
    · rw [List.getElem?_eq_none (by simp; omega)] at he'
      cases he'
  · simp at hj
    unfold layT
    rw [upd_other _ _ (by omega)]
    exact (h j).2 (by omega)
theorem BkT.set (h : BkT T ds pr fa fp low Q) (hp : pr ≠ 0) (hl : ds.length ≤ 32) {j : Nat} (hj : j < ds.length) {st un : Int} (hq : Q st un) : BkT (setT T j st un) ds pr fa fp low Q := by
  obtain ⟨ve, s0, u0, q, _⟩ := (h j).1 _ (List.getElem?_eq_getElem hj)
  have hs : slotE T (j : Int) = 0 := by
    unfold slotE
    rw [if_neg (by omega), Int.toNat_natCast, q, if_neg hp]
  unfold setT
  rw [if_pos hs, Int.toNat_natCast]
  intro i
  refine ⟨fun e he => ?_, fun hi => ?_⟩
  · by_cases e2 : i = j
    · subst e2
      rw [upd_same, q]
      obtain ⟨_, rfl⟩ := List.getElem?_eq_some_iff.1 he
      exact ⟨ve + 1, st, un, rfl, hq⟩
    · rw [upd_other _ _ e2]; exact (h i).1 e he
  · rw [upd_other _ _ (by omega)]; exact (h i).2 hi
theorem BkT.exp (h : BkT T ds pr fa fp low Q) {now : Int} (hq : ∀ st un, Q st un → now < un) : expT T now 32 = T := by
  funext j
  unfold expT
  rw [if_neg]
  rintro ⟨hj, hg⟩
  rcases h.at j with ⟨q, _⟩ | ⟨e', ve, st, un, he', q, k⟩
  · rw [q] at hg; simp [goneQ, noC] at hg
  · rw [q] at hg
    have := hq _ _ k
    simp [goneQ] at hg
    omega
theorem BkT.mono (h : BkT T ds pr fa fp low Q) {Q' : Int → Int → Prop} (hq : ∀ st un, Q st un → Q' st un) : BkT T ds pr fa fp low Q' := fun j => ⟨fun e he => by obtain ⟨ve, st, un, q, k⟩ := (h j).1 e he; exact ⟨ve, st, un, q, hq _ _ k⟩, (h j).2⟩
end
/-- a node with such a table. -/
structure Bn (ds : List (Int × Int)) (pr fa fp low : Int) (Q : Int → Int → Prop) (l : List Rl) (now : Nat) (x : No) : Prop where
  ac : x.ro.ac = true
  nw : x.now = now
  lo : x.low = low
  T : BkT x.T ds pr fa fp low Q
  ru : x.ru = l
  nd : ds.Nodup
  le : ds.length ≤ 24
theorem noted_low (x : No) : x.noted.low = x.low := by unfold No.noted; split <;> rfl
theorem Bn.tick {ds : List (Int × Int)} {pr fa fp low : Int} {Q : Int → Int → Prop} {l : List Rl} {now : Nat} {x : No} (h : Bn ds pr fa fp low Q l now x) (hq : ∀ st un, Q st un → (now : Int) + 1 < un) : x.tkE = 0 ∧ Bn ds pr fa fp low Q l (now + 1) x.tick := by
  obtain ⟨e, ht, ha⟩ := act_tick h.ac
  have hle := h.le
  have hT : x.ticked.T = x.T := by
    show expT x.T (x.now + 1) 32 = _
    rw [h.nw]
    exact h.T.exp hq
  refine ⟨e, ?_⟩
  rw [ht]
  have hn : x.ticked.now = ((now + 1 : Nat) : Int) := by show x.now + 1 = _; rw [h.nw]; omega
  refine ⟨?_, ?_, (noted_low _).trans h.lo, by rw [noted_T, hT]; exact h.T, ?_, h.nd, h.le⟩
  · unfold No.noted; split <;> exact ha
  · unfold No.noted; split <;> exact hn
  · unfold No.noted; split <;> exact h.ru
end Go.Proofs.YtjfhompbeengmaaDoor

namespace Go.Proofs.YtjfhompbeengmaaDoor
open Go.RowKit

def ruL : List Rl := [⟨true, true, 0, 1, 65535⟩]
theorem ruL_ok : RulesOk ruL := ⟨by decide, by decide⟩
theorem ruL_sl (w : World) : Sl (w.alloc (.cells #[.bool true, .bool true, .int .i64 0, .int .i64 1, .int .i64 65535] 34)) (.slice (some ⟨w.heap.size, 0, none⟩) 1 1) ruL := by
  refine Or.inr ⟨_, 1, rfl, by decide, by unfold maxLen; omega, fun i r hr => ?_⟩
  match i, hr with
  | 0, hr =>
    obtain rfl : (⟨true, true, 0, 1, 65535⟩ : Rl) = r := by simpa [ruL] using hr
    exact ⟨w.heap.size, 0, rfl, (nw _ _ _ _).trans rfl, (nw _ _ _ _).trans rfl, (nw _ _ _ _).trans rfl, (nw _ _ _ _).trans rfl, (nw _ _ _ _).trans rfl⟩
  | i + 1, hr => simp [ruL] at hr
theorem adm_one {pr p : Int} (h1 : 1 ≤ p) (h2 : p ≤ 65535) : adm ruL pr true p = true := by
  have : (⟨true, true, 0, 1, 65535⟩ : Rl).has pr true p = true := has_iff.2 ⟨rfl, Or.inl rfl, h1, h2⟩
  unfold ruL adm
  rw [if_pos this]
end Go.Proofs.YtjfhompbeengmaaDoor
