/-
  Two roles that claim and hear each other, as plain mathematics: no epoch is claimed twice, of two that are active one falls.
-/
import Derived.Test.YtneoflcfhdjcoabDoorRoR
namespace Go.Proofs.YtneoflcfhdjcoabDoor

def upd {α : Type} (f : Nat → α) (c : Nat) (v : α) : Nat → α := fun i => if i = c then v else f i
theorem upd_same {α : Type} (f : Nat → α) (c : Nat) (v : α) : upd f c v c = v := if_pos rfl
theorem upd_other {α : Type} (f : Nat → α) {c d : Nat} (v : α) (h : d ≠ c) : upd f c v d = f d := if_neg h
/-- what holds of both roles, of the last epoch that each has claimed, and of all that were claimed. -/
structure Inv (rr : Nat → Ro) (la : Nat → Int) (L : List Int) (i : Int) : Prop where
  k : ∀ c, c < 2 → (rr c).Ok
  nd : ∀ c, c < 2 → (rr c).nd = (c : Int)
  ep : ∀ c, c < 2 → (rr c).ep ≤ 2 * i
  l0 : ∀ c, c < 2 → 0 ≤ la c
  l1 : ∀ c, c < 2 → la c ≤ (rr c).ep
  ac : ∀ c, c < 2 → (rr c).ac = true → (rr c).ep = la c ∧ la c % 2 = (c : Int)
  al : ∀ e, e ∈ L → ∀ c : Nat, c < 2 → e % 2 = (c : Int) → e ≤ la c
def rr0 : Nat → Ro := fun c => ⟨(c : Int), 0, 0, false⟩
theorem Inv.start : Inv rr0 (fun _ => 0) [] 0 where
  k := fun c hc => ⟨by show (c : Int) = 0 ∨ (c : Int) = 1; omega, Int.le_refl _, by show (0 : Int) ≤ 1073741824; omega, Int.le_refl _, by show (0 : Int) ≤ 10; omega⟩
  nd := fun c _ => rfl
  ep := fun c _ => by show (0 : Int) ≤ 2 * 0; omega
  l0 := fun c _ => Int.le_refl _
  l1 := fun c _ => Int.le_refl _
  ac := fun c _ h => by cases h
  al := fun e he => by cases he
theorem Inv.mono {rr : Nat → Ro} {la : Nat → Int} {L : List Int} {i j : Int} (h : Inv rr la L i) (hij : i ≤ j) : Inv rr la L j :=
  ⟨h.k, h.nd, fun c hc => by have := h.ep c hc; omega, h.l0, h.l1, h.ac, h.al⟩
theorem Inv.next {rr : Nat → Ro} {la : Nat → Int} {L : List Int} {i : Int} (h : Inv rr la L i) (hi : i ≤ 200) {c : Nat} (hc : c < 2) :
    (rr c).nxE = 0 ∧ (rr c).nxV = (rr c).nx ∧ la c < (rr c).nx ∧ (rr c).nx % 2 = (c : Int) ∧ 0 ≤ (rr c).nx := by
  have h1 := (rr c).nx_lt
  have h2 := h.ep c hc
  have h3 := h.l1 c hc
  have h4 := Ro.nx_par (h.k c hc)
  have h5 := h.l0 c hc
  rw [h.nd c hc] at h4
  unfold Ro.nxE Ro.nxV
  rw [if_neg (by omega), if_neg (by omega)]
  exact ⟨rfl, rfl, by omega, h4, by omega⟩
theorem Inv.claim {rr : Nat → Ro} {la : Nat → Int} {L : List Int} {i : Int} (h : Inv rr la L i) (hi : i ≤ 200) {c : Nat} (hc : c < 2) (ha : (rr c).ac = false) :
    (rr c).clE (rr c).nx = 0 ∧ Inv (upd rr c ((rr c).claim (rr c).nx)) (upd la c (rr c).nx) (L ++ [(rr c).nx]) (i + 1) ∧ (rr c).nx ∉ L := by
  obtain ⟨n1, n2, n3, n4, n5⟩ := h.next hi hc
  have h1 := (rr c).nx_lt
  have h2 := h.ep c hc
  have hE : (rr c).clE (rr c).nx = 0 := by
    unfold Ro.clE
    rw [ha, if_neg (by simp), if_neg (by omega), if_pos rfl]
  have hC : (rr c).claim (rr c).nx = ⟨(rr c).nd, (rr c).nx, (rr c).si, true⟩ := by unfold Ro.claim; rw [hE]; rfl
  refine ⟨hE, ?_, fun hm => by have := h.al _ hm c hc n4; omega⟩
  refine ⟨fun d hd => ?_, fun d hd => ?_, fun d hd => ?_, fun d hd => ?_, fun d hd => ?_, fun d hd => ?_, fun e he d hd hp => ?_⟩
  · by_cases hdc : d = c
    · subst hdc; rw [upd_same]; exact (h.k d hc).claim _
    · rw [upd_other _ _ hdc]; exact h.k d hd
  · by_cases hdc : d = c
    · subst hdc; rw [upd_same, hC]; exact h.nd d hc
    · rw [upd_other _ _ hdc]; exact h.nd d hd
  · by_cases hdc : d = c
    · subst hdc; rw [upd_same, hC]; show (rr d).nx ≤ _; omega
    · rw [upd_other _ _ hdc]; have := h.ep d hd; omega
  · by_cases hdc : d = c
    · subst hdc; rw [upd_same]; exact n5
    · rw [upd_other _ _ hdc]; exact h.l0 d hd
  · by_cases hdc : d = c
    · subst hdc; rw [upd_same, upd_same, hC]; exact Int.le_refl _
    · rw [upd_other _ _ hdc, upd_other _ _ hdc]; exact h.l1 d hd
  · by_cases hdc : d = c
    · subst hdc; rw [upd_same, upd_same, hC]; exact fun _ => ⟨rfl, n4⟩
    · rw [upd_other _ _ hdc, upd_other _ _ hdc]; exact h.ac d hd
  · rcases List.mem_append.1 he with he | he
    · have := h.al e he d hd hp
      by_cases hdc : d = c
      · subst hdc; rw [upd_same]; omega
      · rw [upd_other _ _ hdc]; exact this
    · rw [List.mem_singleton] at he
      subst he
      have : d = c := by omega
      subst this
      rw [upd_same]
      exact Int.le_refl _
theorem Inv.apart {rr : Nat → Ro} {la : Nat → Int} {L : List Int} {i : Int} (h : Inv rr la L i) {c : Nat} (hc : c < 2) (h1 : (rr c).ac = true) (h2 : (rr (1 - c)).ac = true) : (rr c).ep ≠ (rr (1 - c)).ep := by
  have a1 := h.ac c hc h1
  have a2 := h.ac (1 - c) (by omega) h2
  omega
theorem Inv.hear {rr : Nat → Ro} {la : Nat → Int} {L : List Int} {i : Int} (h : Inv rr la L i) {c : Nat} (hc : c < 2) (ha : (rr (1 - c)).ac = true) :
    Inv (upd rr c ((rr c).hear (rr (1 - c)).ep)) la L i ∧ (((rr c).hear (rr (1 - c)).ep).ac = true → (rr (1 - c)).ep < ((rr c).hear (rr (1 - c)).ep).ep) := by
  have hd1 : 1 - c < 2 := by omega
  have hk := (h.k c hc).hear (rr (1 - c)).ep
  have hap := h.apart hc
  have hp : isEpR (rr (1 - c)).ep = true := isEpR_iff.2 ⟨(h.k _ hd1).e0, (h.k _ hd1).e1⟩
  generalize hy : rr (1 - c) = y at *
  have hy2 : y.ep ≤ 2 * i := by rw [← hy]; exact h.ep _ hd1
  have go : ∀ r' : Ro, r'.Ok → r'.nd = (rr c).nd → r'.ep ≤ 2 * i → (rr c).ep ≤ r'.ep → (r'.ac = true → (rr c).ac = true ∧ r'.ep = (rr c).ep) → Inv (upd rr c r') la L i := fun r' k1 k2 k3 k4 k5 => by
    refine ⟨fun d hd => ?_, fun d hd => ?_, fun d hd => ?_, h.l0, fun d hd => ?_, fun d hd => ?_, h.al⟩
    · by_cases hdc : d = c
      · subst hdc; rw [upd_same]; exact k1
      · rw [upd_other _ _ hdc]; exact h.k d hd
    · by_cases hdc : d = c
      · subst hdc; rw [upd_same, k2]; exact h.nd d hd
      · rw [upd_other _ _ hdc]; exact h.nd d hd
    · by_cases hdc : d = c
      · subst hdc; rw [upd_same]; exact k3
      · rw [upd_other _ _ hdc]; exact h.ep d hd
    · by_cases hdc : d = c
      · subst hdc; rw [upd_same]; have := h.l1 d hd; omega
      · rw [upd_other _ _ hdc]; exact h.l1 d hd
    · by_cases hdc : d = c
      · subst hdc; rw [upd_same]; intro ht; rw [(k5 ht).2]; exact h.ac d hd (k5 ht).1
      · rw [upd_other _ _ hdc]; exact h.ac d hd
  by_cases hl : y.ep < (rr c).ep
  · have e := (Ro.hear_no (r := rr c) (Or.inr hl)).1
    rw [e] at hk ⊢
    exact ⟨go _ hk rfl (h.ep c hc) (Int.le_refl _) (fun ht => ⟨ht, rfl⟩), fun _ => hl⟩
  · by_cases hg : (rr c).ep < y.ep
    · have e := (Ro.hear_gt hp hg).1
      rw [e] at hk ⊢
      exact ⟨go _ hk rfl hy2 (Int.le_of_lt hg) (fun ht => by cases ht), fun ht => by cases ht⟩
    · have he : y.ep = (rr c).ep := by omega
      rw [he] at hp hk ⊢
      have e := (Ro.hear_eq hp).1
      rw [e] at hk ⊢
      exact ⟨go _ hk rfl (h.ep c hc) (Int.le_refl _) (fun ht => ⟨ht, rfl⟩), fun ht => absurd he.symm (hap ht ha)⟩
theorem Inv.one {rr : Nat → Ro} {la : Nat → Int} {L : List Int} {i : Int} (h : Inv rr la L i) (h0 : (rr 0).ac = true) (h1 : (rr 1).ac = true) :
    ((rr 0).hear (rr 1).ep).ac = false ∨ ((rr 1).hear ((rr 0).hear (rr 1).ep).ep).ac = false := by
  have hne := h.apart (c := 0) (by omega) h0 h1
  have p0 : isEpR (rr 0).ep = true := isEpR_iff.2 ⟨(h.k 0 (by omega)).e0, (h.k 0 (by omega)).e1⟩
  have p1 : isEpR (rr 1).ep = true := isEpR_iff.2 ⟨(h.k 1 (by omega)).e0, (h.k 1 (by omega)).e1⟩
  have hne : (rr 0).ep ≠ (rr 1).ep := hne
  by_cases hl : (rr 1).ep < (rr 0).ep
  · right
    rw [(Ro.hear_no (r := rr 0) (Or.inr hl)).1, (Ro.hear_gt p0 hl).1]
  · left
    rw [(Ro.hear_gt p1 (by omega)).1]
end Go.Proofs.YtneoflcfhdjcoabDoor
