/-
  Plain mathematics of a put: wherever power is cut, what is held is what was there, or what was put.
-/
import Derived.Test.YthmnmdikpccenacDoorCeM
namespace Go.Proofs.YthmnmdikpccenacDoor

theorem held_spec {B : List UInt8} {k : Nat} (h : isHeld B k = true) : (slotN B k).n % 2 = k ∧ 1 ≤ (slotN B k).n := by
  unfold isHeld heldB at h
  simp only [Bool.and_eq_true, decide_eq_true_eq, beq_iff_eq] at h
  exact ⟨h.2, h.1.2⟩
theorem slotL_at (B : List UInt8) (k i : Nat) (hi : i < 16) : (slotL B k)[i]? = B[20 * k + i]? := by
  unfold slotL
  rw [List.getElem?_take, if_pos hi, List.getElem?_drop]
theorem slotL_congr {B B' : List UInt8} {k : Nat} (h : ∀ i, i < 17 → B'[20 * k + i]? = B[20 * k + i]?) : slotL B' k = slotL B k ∧ slotM B' k = slotM B k := by
  constructor
  · apply List.ext_getElem?
    intro i
    by_cases hi : i < 16
    · rw [slotL_at _ _ _ hi, slotL_at _ _ _ hi, h i (by omega)]
    · unfold slotL
      rw [List.getElem?_take, if_neg hi, List.getElem?_take, if_neg hi]
  · unfold slotM
    rw [List.getD_eq_getElem?_getD, List.getD_eq_getElem?_getD, h 16 (by omega)]
theorem slot_congr {B B' : List UInt8} {k : Nat} (h : ∀ i, i < 17 → B'[20 * k + i]? = B[20 * k + i]?) : isHeld B' k = isHeld B k ∧ slotN B' k = slotN B k := by
  obtain ⟨h1, h2⟩ := slotL_congr h
  unfold isHeld slotN
  rw [h1, h2]
  exact ⟨rfl, rfl⟩
theorem seqW_mem : ∀ (L : List UInt8) (a : Nat) (q : Nat × UInt8), q ∈ seqW a L → a ≤ q.1 ∧ q.1 < a + L.length
  | [], _, q, h => by simp [seqW] at h
  | v :: L, a, q, h => by
    unfold seqW at h
    rcases List.mem_cons.1 h with rfl | h
    · simp
    · have := seqW_mem L (a + 1) q h
      simp
      omega
theorem seqW_len : ∀ (L : List UInt8) (a : Nat), (seqW a L).length = L.length
  | [], _ => rfl
  | v :: L, a => by simp [seqW, seqW_len L]
theorem putW_mem (B : List UInt8) (x : Nm) (q : Nat × UInt8) (h : q ∈ putW B x) : 20 * (x.n % 2) ≤ q.1 ∧ q.1 ≤ 20 * (x.n % 2) + 16 := by
  unfold putW preW at h
  rcases List.mem_append.1 h with h | h
  · split at h
    · simp at h
    · rw [List.mem_singleton] at h
      subst h
      simp
  · rcases List.mem_append.1 h with h | h
    · have := seqW_mem _ _ _ h
      rw [img_len] at this
      omega
    · rw [List.mem_singleton] at h
      subst h
      simp
theorem app_seq : ∀ (L : List UInt8) (a : Nat) (B : List UInt8), a + L.length ≤ B.length → app B (seqW a L) = B.take a ++ (L ++ B.drop (a + L.length))
  | [], a, B, _ => by simp [seqW, app]
  | v :: L, a, B, h => by
    have ih := app_seq L (a + 1) (B.set a v) (by simp at h ⊢; omega)
    show app (B.set a v) (seqW (a + 1) L) = _
    rw [ih]
    simp only [List.length_cons] at h ⊢
    have e1 : (B.set a v).take (a + 1) = B.take a ++ [v] := by
      rw [List.take_succ_eq_append_getElem (by rw [List.length_set]; omega), List.getElem_set_self, List.take_set_of_le (by omega)]
    have e2 : (B.set a v).drop (a + 1 + L.length) = B.drop (a + (L.length + 1)) := by
      rw [List.drop_set_of_lt (by omega), show a + 1 + L.length = a + (L.length + 1) from by omega]
    rw [e1, e2]
    simp
/-- the other slot is not touched. -/
theorem put_other {B : List UInt8} {x : Nm} {l : List (Nat × UInt8)} (hl : ∀ q, q ∈ l → q ∈ putW B x) (k : Nat) (hn : k ≠ x.n % 2) : isHeld (app B l) k = isHeld B k ∧ slotN (app B l) k = slotN B k := by
  apply slot_congr
  intro i hi
  apply app_other
  intro q hq
  have := putW_mem B x q (hl q hq)
  omega
theorem putW_len (B : List UInt8) (x : Nm) : (putW B x).length = (preW B (20 * (x.n % 2))).length + 17 := by
  unfold putW
  rw [List.length_append, List.length_append, seqW_len, img_len]
  rfl
/-- power failed: the slot is as it was, or its mark is away. -/
theorem put_part {B : List UInt8} (hB : B.length = 64) (x : Nm) (j : Nat) (hj : j < (putW B x).length) : app B ((putW B x).take j) = B ∨ slotM (app B ((putW B x).take j)) (x.n % 2) = 0 := by
  have hseq : ∀ (C : List UInt8) (i : Nat), C.getD (20 * (x.n % 2) + 16) 0 = 0 → slotM (app C ((seqW (20 * (x.n % 2)) (img x)).take i)) (x.n % 2) = 0 := fun C i hc => by
    unfold slotM
    rw [List.getD_eq_getElem?_getD, app_other _ _ _ (fun q hq => ?_), ← List.getD_eq_getElem?_getD, hc]
    have := seqW_mem _ _ _ (List.mem_of_mem_take hq)
    rw [img_len] at this
    omega
  rw [putW_len] at hj
  unfold putW
  unfold preW at hj ⊢
  split
  · rename_i h0
    right
    rw [if_pos h0] at hj
    rw [List.nil_append, List.take_append_of_le_length (by rw [seqW_len, img_len]; simp at hj; omega)]
    exact hseq B j h0
  · rename_i h0
    rw [if_neg h0] at hj
    cases j with
    | zero => left; rfl
    | succ j =>
      right
      rw [List.cons_append, List.take_succ_cons, List.nil_append, List.take_append_of_le_length (by rw [seqW_len, img_len]; simp at hj; omega)]
      show slotM (app (B.set (20 * (x.n % 2) + 16) 0) _) _ = 0
      apply hseq
      rw [List.getD_eq_getElem?_getD, List.getElem?_set_self (by omega)]
      rfl
theorem unmarked {B : List UInt8} {k : Nat} (h : slotM B k = 0) : isHeld B k = false := by
  unfold isHeld heldB
  rw [h]
  rfl
/-- all was written: the slot holds it. -/
theorem put_whole {B : List UInt8} (hB : B.length = 64) {x : Nm} (h0 : 1 ≤ x.n) (h1 : x.n < 4294967296) (h2 : x.e < 4294967296) (h3 : x.l < 4294967296) : isHeld (app B (putW B x)) (x.n % 2) = true ∧ slotN (app B (putW B x)) (x.n % 2) = x := by
  have hk : x.n % 2 < 2 := by omega
  obtain ⟨C, hC, hCl⟩ : ∃ C, app B (preW B (20 * (x.n % 2))) = C ∧ C.length = 64 := ⟨_, rfl, by rw [app_len, hB]⟩
  have e : app B (putW B x) = (C.take (20 * (x.n % 2)) ++ (img x ++ C.drop (20 * (x.n % 2) + 16))).set (20 * (x.n % 2) + 16) 165 := by
    unfold putW
    rw [app_append, app_append, hC, app_seq _ _ _ (by rw [img_len]; omega), img_len]
    rfl
  have hL : slotL (app B (putW B x)) (x.n % 2) = img x := by
    apply List.ext_getElem?
    intro i
    by_cases hi : i < 16
    · rw [slotL_at _ _ _ hi, e, List.getElem?_set_ne (by omega), List.getElem?_append_right (by rw [List.length_take]; omega), List.length_take, Nat.min_eq_left (by omega), Nat.add_sub_cancel_left, List.getElem?_append_left (by rw [img_len]; exact hi)]
    · unfold slotL
      rw [List.getElem?_take, if_neg hi, List.getElem?_eq_none (by rw [img_len]; omega)]
  have hM : slotM (app B (putW B x)) (x.n % 2) = 165 := by
    unfold slotM
    rw [e, List.getD_eq_getElem?_getD, List.getElem?_set_self (by simp [img_len]; omega)]
    rfl
  have hN : slotN (app B (putW B x)) (x.n % 2) = x := by
    unfold slotN
    rw [hL]
    have := nmOf_img h1 h2 h3 []
    rw [List.append_nil] at this
    exact this
  refine ⟨?_, hN⟩
  unfold isHeld heldB
  have hN' : nmOf (slotL (app B (putW B x)) (x.n % 2)) = x := hN
  rw [hN', hL, hM]
  simp [h0]
theorem newest_two (B : List UInt8) : newest B = if isHeld B 1 = true ∧ (if isHeld B 0 = true ∧ 0 < (slotN B 0).n then slotN B 0 else ⟨0, 0, 0⟩ : Nm).n < (slotN B 1).n then slotN B 1 else (if isHeld B 0 = true ∧ 0 < (slotN B 0).n then slotN B 0 else ⟨0, 0, 0⟩) := rfl
theorem two_ok (B B' : List UInt8) (x : Nm) (hx : x.n = (newest B).n + 1) (ho : ∀ k, k < 2 → k ≠ x.n % 2 → isHeld B' k = isHeld B k ∧ slotN B' k = slotN B k) (hh : isHeld B' (x.n % 2) = true) (hn : slotN B' (x.n % 2) = x) : newest B' = x := by
  have s0 := @held_spec B 0
  have s1 := @held_spec B 1
  rw [newest_two] at hx
  rw [newest_two]
  have hk : x.n % 2 = 0 ∨ x.n % 2 = 1 := by omega
  rcases hk with hk | hk <;> rw [hk] at ho hh hn
  · obtain ⟨a, b⟩ := ho 1 (by omega) (by omega)
    have hi : (if isHeld B' 0 = true ∧ 0 < (slotN B' 0).n then slotN B' 0 else ⟨0, 0, 0⟩ : Nm) = x := by rw [hh, hn, if_pos ⟨rfl, by omega⟩]
    rw [hi, a, b, if_neg]
    rintro ⟨c, d⟩
    rw [c] at hx
    split at hx <;> split at hx <;> simp_all <;> omega
  · obtain ⟨a, b⟩ := ho 0 (by omega) (by omega)
    rw [hh, hn, a, b, if_pos]
    refine ⟨rfl, ?_⟩
    split at hx <;> split at hx <;> simp_all <;> omega
theorem two_no (B B' : List UInt8) (x : Nm) (hx : x.n = (newest B).n + 1) (ho : ∀ k, k < 2 → k ≠ x.n % 2 → isHeld B' k = isHeld B k ∧ slotN B' k = slotN B k) (hh : isHeld B' (x.n % 2) = false) : newest B' = newest B := by
  have s0 := @held_spec B 0
  have s1 := @held_spec B 1
  have hk : x.n % 2 = 0 ∨ x.n % 2 = 1 := by omega
  rw [newest_two] at hx
  rw [newest_two, newest_two]
  rcases hk with hk | hk <;> rw [hk] at ho hh
  · obtain ⟨a, b⟩ := ho 1 (by omega) (by omega)
    rw [hh, a, b]
    cases h1 : isHeld B 1 <;> cases h0 : isHeld B 0 <;> rw [h1, h0] at hx <;> simp only [h0, h1, true_implies] at s0 s1 <;> simp at hx s0 s1 ⊢
    · rw [if_pos (by omega)] at hx
      exfalso; omega
    · rw [if_pos (show 0 < (slotN B 0).n by omega)] at hx ⊢
      split at hx
      · rename_i h
        rw [if_pos (by omega), if_pos h]
      · exfalso; omega
  · obtain ⟨a, b⟩ := ho 0 (by omega) (by omega)
    rw [hh, a, b]
    cases h1 : isHeld B 1 <;> cases h0 : isHeld B 0 <;> rw [h1, h0] at hx <;> simp only [h0, h1, true_implies] at s0 s1 <;> simp at hx s0 s1 ⊢
    · intro h
      rw [if_pos h] at hx
      exfalso; omega
    · rw [if_pos (show 0 < (slotN B 0).n by omega)] at hx ⊢
      intro h
      rw [if_pos h] at hx
      exfalso; omega
theorem put_pair {s : By} (hB : s.B.length = 64) {x : Nm} (hx : x.n = (newest s.B).n + 1) (h1 : x.n < 4294967296) (h2 : x.e < 4294967296) (h3 : x.l < 4294967296) :
    ((putS s x).2 = true → newest (putS s x).1.B = x ∧ (putS s x).1.on = true) ∧ ((putS s x).2 = false → newest (putS s x).1.B = newest s.B ∧ (putS s x).1.on = false) := by
  have hne : putW s.B x ≠ [] := fun e => by have := putW_len s.B x; rw [e] at this; simp at this
  unfold putS
  rw [wrs_eq]
  by_cases hc : s.on = true ∧ (s.cut = false ∨ (putW s.B x).length ≤ s.left)
  · rw [if_pos hc]
    refine ⟨fun _ => ⟨?_, rfl⟩, fun h => by cases h⟩
    obtain ⟨a, b⟩ := put_whole hB (by omega) h1 h2 h3
    exact two_ok s.B _ x hx (fun k _ hn => put_other (fun _ h => h) k hn) a b
  · rw [if_neg hc]
    by_cases ho : s.on = true
    · rw [if_pos (.inl ho), if_neg hne]
      refine ⟨fun h => (by cases h), fun _ => ⟨?_, rfl⟩⟩
      have hlt : s.left < (putW s.B x).length := by
        rcases Nat.lt_or_ge s.left (putW s.B x).length with h | h
        · exact h
        · exact absurd ⟨ho, .inr h⟩ hc
      show newest (app s.B ((putW s.B x).take s.left)) = _
      rcases put_part hB x s.left hlt with h | h
      · rw [h]
      · exact two_no s.B _ x hx (fun k _ hn => put_other (fun _ h => List.mem_of_mem_take h) k hn) (unmarked h)
    · rw [if_neg (by simp [ho, hne])]
      exact ⟨fun h => (by cases h), fun _ => ⟨rfl, by simpa using ho⟩⟩
end Go.Proofs.YthmnmdikpccenacDoor
