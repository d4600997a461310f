/-
  Plain mathematics: the text of right rules is read back.
-/
import Derived.Test.YtpmoamfhppmicaaGreatDoorRdC
namespace Go.Proofs.YtpmoamfhppmicaaGreatDoor
open Go.RowKit

theorem nm_no (c : UInt8) (hc : c.toNat < 97) : ∀ i j, c ∉ nmW i j := by
  intro i j h
  have h2 : ∀ x ∈ nmW i j, 97 ≤ x.toNat := by
    match i, j with
    | 0, 0 => decide
    | 0, _ + 1 => simp only [nmW]; decide
    | 1, 0 => decide
    | 1, _ + 1 => simp only [nmW]; decide
    | _ + 2, 0 => simp only [nmW]; decide
    | _ + 2, 1 => simp only [nmW]; decide
    | _ + 2, _ + 2 => simp only [nmW]; decide
  have := h2 c h
  omega
theorem itoa_c {n : Int} (h0 : 0 ≤ n) {c : UInt8} (hc : c.toNat < 48) : c ∉ Lib.itoa n := itoa_no h0 c (.inl hc)
theorem name_back {i k : Nat} (hi : i < 3) (hk : k < nmLen i) : nameOf i ⟨(nmW i k).toArray⟩ = some k := by
  match i, hi, k, hk with
  | 0, _, 0, _ => decide
  | 0, _, 1, _ => decide
  | 1, _, 0, _ => decide
  | 1, _, 1, _ => decide
  | 2, _, 0, _ => decide
  | 2, _, 1, _ => decide
  | 2, _, 2, _ => decide
theorem itoa_five {n : Int} (h0 : 0 ≤ n) (h1 : n ≤ 65535) : (Lib.itoa n).length ≤ 5 := by
  rw [itoa_nn h0]
  exact dec_len 5 _ (by omega) (by omega)
theorem two_back {lo tp : Int} (h0 : 0 ≤ lo) (h1 : lo ≤ 65535) (h2 : 0 ≤ tp) (h3 : tp ≤ 65535) : two (Lib.itoa lo ++ 45 :: Lib.itoa tp) = some (lo, tp) := by
  unfold two
  rw [cut_found _ _ (itoa_c h0 (by decide))]
  simp only [numOf_itoa5 h0 (itoa_five h0 h1), numOf_itoa5 h2 (itoa_five h2 h3)]
  rw [if_pos ⟨h0, h2⟩]
theorem line_cut (n0 n1 n2 : Nat) {lo tp : Int} (h0 : 0 ≤ lo) (h2 : 0 ≤ tp) : cutFrom 32 [] (lineL n0 n1 n2 lo tp) = [⟨(nmW 0 n0).toArray⟩, ⟨(nmW 1 n1).toArray⟩, ⟨(nmW 2 n2).toArray⟩, ⟨(Lib.itoa lo ++ 45 :: Lib.itoa tp).toArray⟩] := by
  unfold lineL
  have hm : (32 : UInt8) ∉ Lib.itoa lo ++ 45 :: Lib.itoa tp := by
    intro h
    rcases List.mem_append.1 h with h | h
    · exact itoa_c h0 (by decide) h
    · rcases List.mem_cons.1 h with h | h
      · exact absurd h (by decide)
      · exact itoa_c h2 (by decide) h
  rw [cut_hit 32 _ _ [] (nm_no 32 (by decide) 0 n0), cut_hit 32 _ _ [] (nm_no 32 (by decide) 1 n1), cut_hit 32 _ _ [] (nm_no 32 (by decide) 2 n2), cut_miss 32 _ [] hm]
  simp
theorem rd_of {L A B C D : List UInt8} {i j k : Nat} {q : Int × Int} (h : cutFrom 32 [] L = [⟨A.toArray⟩, ⟨B.toArray⟩, ⟨C.toArray⟩, ⟨D.toArray⟩]) (k0 : nameOf 0 ⟨A.toArray⟩ = some i) (k1 : nameOf 1 ⟨B.toArray⟩ = some j) (k2 : nameOf 2 ⟨C.toArray⟩ = some k) (k3 : two D = some q) :
    rdL ⟨L.toArray⟩ = some ⟨i == 1, j == 1, (k : Int), q.1, q.2⟩ := by
  have h' : [(⟨A.toArray⟩ : ByteArray), ⟨B.toArray⟩, ⟨C.toArray⟩, ⟨D.toArray⟩] = cutFrom 32 [] (⟨L.toArray⟩ : ByteArray).data.toList := by
    simpa using h.symm
  have k3' : two (⟨D.toArray⟩ : ByteArray).data.toList = some q := by simpa using k3
  rw [rdL_four h', rd4_ok k0 k1 k2 k3']
theorem bit_back (b : Bool) : ((if b = true then 1 else 0 : Nat) == 1) = b := by cases b <;> rfl
theorem rd_line {r : Rl} (h : r.ok) : rdL ⟨(rlLine r).toArray⟩ = some r := by
  obtain ⟨h0, h1, h2, h3⟩ := h
  have k0 : nameOf 0 ⟨(nmW 0 (if r.al = true then 1 else 0)).toArray⟩ = some (if r.al = true then 1 else 0) := name_back (by omega) (by cases r.al <;> decide)
  have k1 : nameOf 1 ⟨(nmW 1 (if r.ou = true then 1 else 0)).toArray⟩ = some (if r.ou = true then 1 else 0) := name_back (by omega) (by cases r.ou <;> decide)
  have k2 : nameOf 2 ⟨(nmW 2 r.pr.toNat).toArray⟩ = some r.pr.toNat := name_back (by omega) (by show r.pr.toNat < 3; omega)
  have hk := rd_of (line_cut (if r.al = true then 1 else 0) (if r.ou = true then 1 else 0) r.pr.toNat (lo := r.lo) (tp := r.tp) (by omega) (by omega)) k0 k1 k2 (two_back (lo := r.lo) (tp := r.tp) (by omega) (by omega) (by omega) (by omega))
  have e : ((r.pr.toNat : Nat) : Int) = r.pr := by omega
  rw [bit_back, bit_back, e] at hk
  exact hk
theorem line_no {r : Rl} (h : r.ok) : (10 : UInt8) ∉ rlLine r := by
  obtain ⟨h0, h1, h2, h3⟩ := h
  unfold rlLine lineL
  intro hm
  simp only [List.mem_append, List.mem_cons] at hm
  have d : ¬ ((10 : UInt8) = 32) := by decide
  have d2 : ¬ ((10 : UInt8) = 45) := by decide
  rcases hm with hm | hm | hm | hm | hm | hm | hm | hm | hm
  · exact nm_no 10 (by decide) _ _ hm
  · exact d hm
  · exact nm_no 10 (by decide) _ _ hm
  · exact d hm
  · exact nm_no 10 (by decide) _ _ hm
  · exact d hm
  · exact itoa_c (by omega) (by decide) hm
  · exact d2 hm
  · exact itoa_c (by omega) (by decide) hm
/-- lines, an end between two of them. -/
def joinL : List Rl → List UInt8
  | [] => []
  | [r] => rlLine r
  | r :: q :: l => rlLine r ++ 10 :: joinL (q :: l)
theorem text_join : ∀ (l : List Rl), l ≠ [] → textL l = joinL l ++ [10]
  | [r], _ => by simp [textL, joinL]
  | r :: q :: l, _ => by
    have ih := text_join (q :: l) (by simp)
    have e : textL (r :: q :: l) = (rlLine r ++ [10]) ++ textL (q :: l) := by simp [textL]
    rw [e, ih]
    simp [joinL]
theorem trim_text {l : List Rl} (h : l ≠ []) : trim10 (textL l) = joinL l := by
  rw [text_join l h]
  unfold trim10
  rw [if_pos (by simp)]
  simp
theorem cut_join : ∀ (l : List Rl), l ≠ [] → (∀ r ∈ l, r.ok) → cutFrom 10 [] (joinL l) = l.map fun r => (⟨(rlLine r).toArray⟩ : ByteArray)
  | [r], _, h => by
    rw [joinL, cut_miss 10 _ [] (line_no (h r (by simp)))]
    simp
  | r :: q :: l, _, h => by
    rw [joinL, cut_hit 10 _ _ [] (line_no (h r (by simp))), cut_join (q :: l) (by simp) (fun y hy => h y (by simp [hy]))]
    simp
theorem good_lines : ∀ (l : List Rl) (k : Nat), (∀ r ∈ l, r.ok) → firstBad (l.map fun r => (⟨(rlLine r).toArray⟩ : ByteArray)) k = none
  | [], _, _ => rfl
  | r :: l, k, h => by
    rw [List.map_cons, firstBad, rd_line (h r (by simp)), if_pos (show (some r).isSome = true from rfl)]
    exact good_lines l (k + 1) (fun y hy => h y (by simp [hy]))
theorem rules_lines : ∀ (l : List Rl), (∀ r ∈ l, r.ok) → rulesOf (l.map fun r => (⟨(rlLine r).toArray⟩ : ByteArray)) = l
  | [], _ => rfl
  | r :: l, h => by
    have ih := rules_lines l (fun y hy => h y (by simp [hy]))
    unfold rulesOf at ih ⊢
    rw [List.map_cons, List.filterMap_cons, rd_line (h r (by simp))]
    simp only [ih]
/-- what is written is read. -/
theorem text_read {s : Nat → Addr} {W : World} {l : List Rl} {v e : Value} (h : RulesOk l) (hV : RdV s W ⟨(textL l).toArray⟩ v e) : e = .nilIface ∧ Sl W v l := by
  have hok := chkAt_none.1 h.2
  have hsz : (⟨(textL l).toArray⟩ : ByteArray).size = (textL l).length := by simp [ByteArray.size]
  have hle := textL_len hok
  have h20 := h.1
  rcases hV with ⟨h1, _⟩ | ⟨h1, rfl, rfl⟩ | ⟨_, _, h3⟩
  · omega
  · cases l with
    | nil => exact ⟨rfl, .inl ⟨rfl, rfl⟩⟩
    | cons r l =>
      rw [hsz, text_join _ (by simp)] at h1
      simp at h1
  · by_cases hl : l = []
    · subst hl
      have : (⟨(textL []).toArray⟩ : ByteArray).size = 0 := rfl
      omega
    · have e1 : cutFrom 10 [] (trim10 (⟨(textL l).toArray⟩ : ByteArray).data.toList) = l.map fun r => (⟨(rlLine r).toArray⟩ : ByteArray) := by
        show cutFrom 10 [] (trim10 (textL l)) = _
        rw [trim_text hl, cut_join l hl hok]
      rw [e1] at h3
      rcases h3 with ⟨i, g, k1, _⟩ | ⟨_, ⟨_, k3, k4⟩ | ⟨k2, _⟩⟩
      · rw [good_lines l 0 hok] at k1; cases k1
      · rw [rules_lines l hok] at k4; exact ⟨k3, k4⟩
      · rw [rules_lines l hok] at k2; exact absurd h k2
end Go.Proofs.YtpmoamfhppmicaaGreatDoor
