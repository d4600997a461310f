/-
  Rules as plain mathematics: which packets rules admit; a rule behind one that has all that it has; where what rules admit may change.
-/
namespace Go.Proofs.YtpmoamfhppmicaaGreatDoor

structure Rl where
  al : Bool
  ou : Bool
  pr : Int
  lo : Int
  tp : Int
instance : Inhabited Rl := ⟨⟨false, false, 0, 0, 0⟩⟩
def Rl.ok (r : Rl) : Prop := (r.pr = 0 ∨ r.pr = 1 ∨ r.pr = 2) ∧ 1 ≤ r.lo ∧ r.lo ≤ r.tp ∧ r.tp ≤ 65535
instance (r : Rl) : Decidable r.ok := by unfold Rl.ok; infer_instance
def Rl.has (r : Rl) (pr : Int) (ou : Bool) (p : Int) : Bool := (r.ou == ou) && ((r.pr == 0 || r.pr == pr) && (decide (r.lo ≤ p) && decide (p ≤ r.tp)))
def adm : List Rl → Int → Bool → Int → Bool
  | [], _, _, _ => false
  | r :: l, pr, ou, p => if r.has pr ou p = true then r.al else adm l pr ou p
def edgesL (l : List Rl) : List Int := l.flatMap fun r => [r.lo, r.tp + 1]
def sameAt (a b : List Rl) (ou : Bool) (pr : Int) : Bool := (edgesL a ++ edgesL b).all fun p => adm a pr ou p == adm b pr ou p
def sameL (a b : List Rl) : Bool := sameAt a b true 1 && sameAt a b true 2 && sameAt a b false 1 && sameAt a b false 2

theorem adm_shadow {r b : Rl} {pr : Int} {ou : Bool} {p : Int} (h : b.has pr ou p = true → r.has pr ou p = true) (l2 : List Rl) : ∀ l1 : List Rl, adm (l1 ++ r :: b :: l2) pr ou p = adm (l1 ++ r :: l2) pr ou p
  | [] => by
    simp only [List.nil_append, adm]
    by_cases e : r.has pr ou p = true
    · simp [e]
    · have e2 : ¬ b.has pr ou p = true := fun x => e (h x)
      simp [e, e2]
  | x :: l1 => by
    simp only [List.cons_append, adm]
    rw [adm_shadow h l2 l1]
theorem sameAt_of_eq {a b : List Rl} {pr : Int} {ou : Bool} (h : ∀ p, adm a pr ou p = adm b pr ou p) : sameAt a b ou pr = true := by
  unfold sameAt
  rw [List.all_eq_true]
  intro p _
  rw [h p]
  simp
theorem sameL_of_eq {a b : List Rl} (h : ∀ pr ou p, adm a pr ou p = adm b pr ou p) : sameL a b = true := by
  unfold sameL
  rw [sameAt_of_eq (h 1 true), sameAt_of_eq (h 2 true), sameAt_of_eq (h 1 false), sameAt_of_eq (h 2 false)]
  rfl
theorem has_iff {r : Rl} {pr : Int} {ou : Bool} {p : Int} : r.has pr ou p = true ↔ r.ou = ou ∧ (r.pr = 0 ∨ r.pr = pr) ∧ r.lo ≤ p ∧ p ≤ r.tp := by
  unfold Rl.has
  simp
theorem mem_edges {l : List Rl} {p : Int} : p ∈ edgesL l ↔ ∃ r ∈ l, p = r.lo ∨ p = r.tp + 1 := by
  unfold edgesL
  simp
/-- between two ports with no edge in (q, p] nothing changes. -/
theorem has_still {r : Rl} {pr : Int} {ou : Bool} {p q : Int} (hq : q ≤ p) (h1 : ¬ (q < r.lo ∧ r.lo ≤ p)) (h2 : ¬ (q < r.tp + 1 ∧ r.tp + 1 ≤ p)) : r.has pr ou p = r.has pr ou q := by
  rw [Bool.eq_iff_iff, has_iff, has_iff]
  constructor
  · rintro ⟨a, b, c, d⟩; exact ⟨a, b, by omega, by omega⟩
  · rintro ⟨a, b, c, d⟩; exact ⟨a, b, by omega, by omega⟩
theorem adm_still {pr : Int} {ou : Bool} {p q : Int} (hq : q ≤ p) : ∀ (l : List Rl), (∀ x ∈ edgesL l, ¬ (q < x ∧ x ≤ p)) → adm l pr ou p = adm l pr ou q
  | [], _ => rfl
  | r :: l, h => by
    simp only [adm]
    rw [has_still hq (h r.lo (mem_edges.2 ⟨r, by simp, .inl rfl⟩)) (h (r.tp + 1) (mem_edges.2 ⟨r, by simp, .inr rfl⟩)), adm_still hq l (fun x hx => h x ?_)]
    obtain ⟨y, hy, e⟩ := mem_edges.1 hx
    exact mem_edges.2 ⟨y, List.mem_cons_of_mem _ hy, e⟩
theorem adm_none {pr : Int} {ou : Bool} {p : Int} : ∀ (l : List Rl), (∀ x ∈ edgesL l, p < x) → adm l pr ou p = false
  | [], _ => rfl
  | r :: l, h => by
    simp only [adm]
    have h0 := h r.lo (mem_edges.2 ⟨r, by simp, .inl rfl⟩)
    rw [if_neg (by rw [has_iff]; omega), adm_none l (fun x hx => h x ?_)]
    obtain ⟨y, hy, e⟩ := mem_edges.1 hx
    exact mem_edges.2 ⟨y, List.mem_cons_of_mem _ hy, e⟩
/-- the greatest of a list that is not above p. -/
theorem last_edge (p : Int) : ∀ (l : List Int), (∀ x ∈ l, p < x) ∨ ∃ q ∈ l, q ≤ p ∧ ∀ x ∈ l, ¬ (q < x ∧ x ≤ p)
  | [] => .inl (by simp)
  | y :: l => by
    rcases last_edge p l with h | ⟨q, hq, h1, h2⟩
    · by_cases hy : y ≤ p
      · refine .inr ⟨y, by simp, hy, fun x hx => ?_⟩
        rcases List.mem_cons.1 hx with rfl | hx
        · omega
        · have := h x hx; omega
      · refine .inl fun x hx => ?_
        rcases List.mem_cons.1 hx with rfl | hx
        · omega
        · exact h x hx
    · by_cases hy : q < y ∧ y ≤ p
      · refine .inr ⟨y, by simp, hy.2, fun x hx => ?_⟩
        rcases List.mem_cons.1 hx with rfl | hx
        · omega
        · have := h2 x hx; omega
      · refine .inr ⟨q, List.mem_cons_of_mem _ hq, h1, fun x hx => ?_⟩
        rcases List.mem_cons.1 hx with rfl | hx
        · exact hy
        · exact h2 x hx
/-- alike at all edges: alike everywhere. -/
theorem sameAt_iff {a b : List Rl} {pr : Int} {ou : Bool} : sameAt a b ou pr = true ↔ ∀ p, adm a pr ou p = adm b pr ou p := by
  refine ⟨fun h p => ?_, sameAt_of_eq⟩
  unfold sameAt at h
  rw [List.all_eq_true] at h
  rcases last_edge p (edgesL a ++ edgesL b) with h1 | ⟨q, hq, h1, h2⟩
  · rw [adm_none a (fun x hx => h1 x (List.mem_append_left _ hx)), adm_none b (fun x hx => h1 x (List.mem_append_right _ hx))]
  · rw [adm_still h1 a (fun x hx => h2 x (List.mem_append_left _ hx)), adm_still h1 b (fun x hx => h2 x (List.mem_append_right _ hx))]
    exact eq_of_beq (h q hq)
theorem sameL_iff {a b : List Rl} : sameL a b = true ↔ ∀ pr, pr = 1 ∨ pr = 2 → ∀ ou p, adm a pr ou p = adm b pr ou p := by
  unfold sameL
  simp only [Bool.and_eq_true, sameAt_iff]
  constructor
  · rintro ⟨⟨⟨h1, h2⟩, h3⟩, h4⟩ pr (rfl | rfl) ou p
    · cases ou
      · exact h3 p
      · exact h1 p
    · cases ou
      · exact h4 p
      · exact h2 p
  · intro h
    exact ⟨⟨⟨h 1 (.inl rfl) true, h 2 (.inr rfl) true⟩, h 1 (.inl rfl) false⟩, h 2 (.inr rfl) false⟩
/-- the document's answer: its ports, and what is asked at one. -/
def refPorts (l : List Rl) : List Int := [1, 65535] ++ l.flatMap fun r => [r.lo - 1, r.lo, r.tp, r.tp + 1]
def refAt (a b : List Rl) (p : Int) : Bool := (adm a 1 false p == adm b 1 false p) && ((adm a 2 false p == adm b 2 false p) && ((adm a 1 true p == adm b 1 true p) && (adm a 2 true p == adm b 2 true p)))
def refSame (a b : List Rl) : Bool := (refPorts (a ++ b)).all fun p => decide (p < 1) || (decide (65535 < p) || refAt a b p)
theorem adm_above {pr : Int} {ou : Bool} {p : Int} (hp : 65535 < p) : ∀ (l : List Rl), (∀ r ∈ l, r.ok) → adm l pr ou p = false
  | [], _ => rfl
  | r :: l, h => by
    simp only [adm]
    have h0 := (h r (by simp)).2.2.2
    rw [if_neg (by rw [has_iff]; omega), adm_above hp l (fun x hx => h x (List.mem_cons_of_mem _ hx))]
theorem refSame_eq {a b : List Rl} (ha : ∀ r ∈ a, r.ok) (hb : ∀ r ∈ b, r.ok) : refSame a b = sameL a b := by
  rw [Bool.eq_iff_iff, sameL_iff]
  unfold refSame
  rw [List.all_eq_true]
  constructor
  · intro h
    have key : ∀ x ∈ edgesL a ++ edgesL b, ∀ pr, pr = 1 ∨ pr = 2 → ∀ ou, adm a pr ou x = adm b pr ou x := by
      intro x hx pr hpr ou
      have hm : ∃ r ∈ a ++ b, x = r.lo ∨ x = r.tp + 1 := by
        rcases List.mem_append.1 hx with hx | hx
        · obtain ⟨r, hr, e⟩ := mem_edges.1 hx; exact ⟨r, List.mem_append_left _ hr, e⟩
        · obtain ⟨r, hr, e⟩ := mem_edges.1 hx; exact ⟨r, List.mem_append_right _ hr, e⟩
      obtain ⟨r, hr, e⟩ := hm
      have hok : r.ok := by
        rcases List.mem_append.1 hr with hr | hr
        · exact ha r hr
        · exact hb r hr
      by_cases hbig : 65535 < x
      · rw [adm_above hbig a ha, adm_above hbig b hb]
      · have hp : x ∈ refPorts (a ++ b) := by
          unfold refPorts
          refine List.mem_append_right _ (List.mem_flatMap.2 ⟨r, hr, ?_⟩)
          rcases e with rfl | rfl <;> simp
        have h1 := h x hp
        obtain ⟨_, k1, k2, k3⟩ := hok
        rw [decide_eq_false (by omega), decide_eq_false (by omega), Bool.false_or, Bool.false_or] at h1
        unfold refAt at h1
        simp only [Bool.and_eq_true, beq_iff_eq] at h1
        obtain ⟨e1, e2, e3, e4⟩ := h1
        rcases hpr with rfl | rfl <;> cases ou <;> assumption
    intro pr hpr ou
    rw [← sameAt_iff]
    unfold sameAt
    rw [List.all_eq_true]
    intro x hx
    rw [key x hx pr hpr ou]; simp
  · intro h p _
    unfold refAt
    rw [h 1 (.inl rfl) false p, h 2 (.inr rfl) false p, h 1 (.inl rfl) true p, h 2 (.inr rfl) true p]
    simp
end Go.Proofs.YtpmoamfhppmicaaGreatDoor
