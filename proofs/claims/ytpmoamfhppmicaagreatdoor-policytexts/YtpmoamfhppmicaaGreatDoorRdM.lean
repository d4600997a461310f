/-
  Plain mathematics: rules, read line by line; what is written is read back.
-/
import Derived.Test.YtpmoamfhppmicaaGreatDoorLiA
import Derived.Test.YtpmoamfhppmicaaGreatDoorMaB
import Derived.Test.YtpmoamfhppmicaaGreatDoorPoF
namespace Go.Proofs.YtpmoamfhppmicaaGreatDoor
open Go.RowKit

theorem index_hit (c : UInt8) (r : List UInt8) : ∀ (a : List UInt8), c ∉ a → Lib.index (a ++ c :: r) [c] = a.length
  | [], _ => by simp [Lib.index]
  | b :: a, h => by
    have hb : ¬ c = b := fun e => h (by simp [e])
    have ih := index_hit c r a (fun e => h (by simp [e]))
    simp only [List.cons_append, Lib.index]
    rw [if_neg (by simp [hb]), ih, if_neg (by simp <;> omega)]
    simp
theorem index_miss (c : UInt8) : ∀ (a : List UInt8), c ∉ a → Lib.index a [c] = -1
  | [], _ => by simp [Lib.index]
  | b :: a, h => by
    have hb : ¬ c = b := fun e => h (by simp [e])
    have ih := index_miss c a (fun e => h (by simp [e]))
    simp only [Lib.index]
    rw [if_neg (by simp [hb]), ih]; rfl
theorem words_hit (c : UInt8) (a r : List UInt8) (h : c ∉ a) : words ⟨(a ++ c :: r).toArray⟩ c = ⟨a.toArray⟩ :: words ⟨r.toArray⟩ c := by
  have hi : Lib.indexB ⟨(a ++ c :: r).toArray⟩ ⟨#[c]⟩ = (a.length : Int) := by
    show Lib.index _ _ = _
    simpa using index_hit c r a h
  have hz : (⟨#[c]⟩ : ByteArray).size = 1 := rfl
  have he : (⟨(a ++ c :: r).toArray⟩ : ByteArray).extract (a.length + (⟨#[c]⟩ : ByteArray).size) (⟨(a ++ c :: r).toArray⟩ : ByteArray).size = ⟨r.toArray⟩ := by
    apply ByteArray.ext
    apply Array.ext'
    rw [Lib.extract_to_end, hz]
    simp
  have he2 : (⟨(a ++ c :: r).toArray⟩ : ByteArray).extract 0 (a.length + 0) = ⟨a.toArray⟩ := by
    apply ByteArray.ext
    apply Array.ext'
    rw [Lib.extract_from_zero]
    simp
  unfold words
  rw [Lib.countB_hit _ _ a.length (by rw [hz]; omega) hi, he, Nat.add_comm, Lib.splitB_hit _ _ _ _ a.length hi, he, he2]
theorem words_miss (c : UInt8) (a : List UInt8) (h : c ∉ a) : words ⟨a.toArray⟩ c = [⟨a.toArray⟩] := by
  unfold words
  rw [Lib.splitB_miss]
  show Lib.index _ _ = _
  simpa using index_miss c a h

theorem parse_dec : ∀ (u : Nat) (r : List UInt8), u < 1000000000 → Lib.parseUint10 0 (Lib.decDigits u ++ r) = Lib.parseUint10 u r := by
  intro u
  induction u using Nat.strongRecOn with
  | _ u ih =>
    intro r hu
    rw [Lib.decDigits]
    split
    · rename_i h
      have e : (UInt8.ofNat (48 + u)).toNat = 48 + u := UInt8.toNat_ofNat_of_lt' (by show 48 + u < 256; omega)
      simp only [List.cons_append, List.nil_append, Lib.parseUint10]
      rw [e, if_pos (by omega), if_neg (by omega), if_neg (by omega), show 0 * 10 + (48 + u - 48) = u from by omega]
    · rename_i h
      have e : (UInt8.ofNat (48 + u % 10)).toNat = 48 + u % 10 := UInt8.toNat_ofNat_of_lt' (by show 48 + u % 10 < 256; omega)
      rw [List.append_assoc, ih (u / 10) (by omega) _ (by omega)]
      simp only [List.cons_append, List.nil_append, Lib.parseUint10]
      rw [e, if_pos (by omega), if_neg (by omega), if_neg (by omega), show u / 10 * 10 + (48 + u % 10 - 48) = u from by omega]
theorem atoi_dec (u : Nat) (hu : u < 1000000000) : Lib.atoiAll (Lib.decDigits u) = .ok (u : Int) := by
  have hp := parse_dec u [] hu
  have hpos := dec_pos u
  have hdig := dec_digit u
  rw [List.append_nil] at hp
  generalize Lib.decDigits u = l at *
  match l, hpos with
  | c :: r, _ =>
    have hc := hdig c (by simp)
    simp only [Lib.atoiAll]
    rw [if_neg (by omega)]
    unfold Lib.parseMag
    rw [if_neg (by simp), hp]
    simp only [Lib.parseUint10]
    rw [if_neg (by omega), if_neg (by omega), if_neg (by omega)]
theorem atoi_itoa {n : Int} (h0 : 0 ≤ n) (h1 : n < 1000000000) : Lib.atoiAll (Lib.itoa n) = .ok n := by
  rw [itoa_nn h0, atoi_dec _ (by omega), Int.toNat_of_nonneg h0]
theorem itoa_no {n : Int} (h0 : 0 ≤ n) (c : UInt8) (hc : c.toNat < 48 ∨ 57 < c.toNat) : c ∉ Lib.itoa n := by
  rw [itoa_nn h0]
  intro h
  have := dec_digit _ _ h
  omega

theorem split_mem {c : UInt8} : ∀ {l : List UInt8}, c ∈ l → ∃ a r, l = a ++ c :: r ∧ c ∉ a
  | b :: l, h => by
    by_cases e : b = c
    · exact ⟨[], l, by rw [e]; rfl, by simp⟩
    · have h' : c ∈ l := by
        rcases List.mem_cons.1 h with h | h
        · exact absurd h.symm e
        · exact h
      obtain ⟨a, r, h1, h2⟩ := split_mem h'
      exact ⟨b :: a, r, by rw [h1]; rfl, by simp [h2]; exact fun x => e x.symm⟩
theorem words_cut (c : UInt8) : ∀ (n : Nat) (l : List UInt8), l.length ≤ n → words ⟨l.toArray⟩ c = cutFrom c [] l := by
  intro n
  induction n with
  | zero =>
    intro l h
    obtain rfl : l = [] := List.length_eq_zero_iff.1 (by omega)
    rw [words_miss c [] (by simp)]; rfl
  | succ n ih =>
    intro l h
    by_cases hc : c ∈ l
    · obtain ⟨a, r, rfl, ha⟩ := split_mem hc
      rw [words_hit c a r ha, cut_hit c r a [] ha, ih r (by simp at h; omega)]
      rfl
    · rw [words_miss c l hc, cut_miss c l [] hc]; rfl
theorem words_eq (x : ByteArray) (c : UInt8) : words x c = cutFrom c [] x.data.toList := by
  have := words_cut c x.data.toList.length x.data.toList (Nat.le_refl _)
  simpa using this

/-- no sign but digits makes a number. -/
theorem numFrom_bad {c : UInt8} (hc : c.toNat < 48 ∨ 57 < c.toNat) : ∀ {l : List UInt8} (acc : Nat), c ∈ l → numFrom acc l = -1
  | b :: l, acc, h => by
    unfold numFrom
    split
    · rename_i hb
      rcases List.mem_cons.1 h with h | h
      · subst h; omega
      · exact numFrom_bad hc _ h
    · rfl
theorem numOf_bad {c : UInt8} (hc : c.toNat < 48 ∨ 57 < c.toNat) {l : List UInt8} {m : Nat} (h : c ∈ l) : numOf l m = -1 := by
  unfold numOf
  split
  · rfl
  · exact numFrom_bad hc _ h
theorem numFrom_ge : ∀ (l : List UInt8) (acc : Nat), -1 ≤ numFrom acc l
  | [], acc => by unfold numFrom; omega
  | b :: l, acc => by
    unfold numFrom
    split
    · exact numFrom_ge l _
    · omega
theorem numOf_ge (l : List UInt8) (m : Nat) : -1 ≤ numOf l m := by
  unfold numOf; split
  · omega
  · exact numFrom_ge l 0
theorem numFrom_lt : ∀ (l : List UInt8) (acc : Nat), numFrom acc l < (acc + 1 : Nat) * 10 ^ l.length
  | [], acc => by unfold numFrom; simp; omega
  | b :: l, acc => by
    unfold numFrom
    split
    · rename_i hb
      have h := numFrom_lt l (10 * acc + (b.toNat - 48))
      have h2 : ((10 * acc + (b.toNat - 48) + 1 : Nat) : Int) * 10 ^ l.length ≤ ((acc + 1 : Nat) : Int) * 10 ^ (b :: l).length := by
        rw [List.length_cons, Int.pow_succ, Int.mul_comm (10 ^ l.length) 10, ← Int.mul_assoc]
        exact Int.mul_le_mul_of_nonneg_right (by omega) (Int.le_of_lt (Int.pow_pos (by omega)))
      omega
    · have : (0 : Int) ≤ ((acc + 1 : Nat) : Int) * 10 ^ (b :: l).length := Int.mul_nonneg (by omega) (Int.le_of_lt (Int.pow_pos (by omega)))
      omega
theorem numOf_lt (l : List UInt8) : numOf l 5 < 100000 := by
  unfold numOf
  split
  · omega
  · rename_i h
    have h1 := numFrom_lt l 0
    have h2 : (10 : Int) ^ l.length ≤ 10 ^ 5 := by
      have : (10 : Nat) ^ l.length ≤ 10 ^ 5 := Nat.pow_le_pow_right (by decide) (by omega)
      exact_mod_cast this
    have h3 : (10 : Int) ^ 5 = 100000 := by decide
    have h4 : ((0 + 1 : Nat) : Int) * 10 ^ l.length = 10 ^ l.length := by simp
    omega
theorem numOf_itoa5 {n : Int} (h0 : 0 ≤ n) (hl : (Lib.itoa n).length ≤ 5) : numOf (Lib.itoa n) 5 = n := by
  rw [itoa_nn h0] at hl ⊢
  obtain ⟨u, rfl⟩ := Int.eq_ofNat_of_zero_le h0
  rw [Int.toNat_natCast] at hl ⊢
  unfold numOf
  have hp := dec_pos u
  rw [if_neg, show Lib.decDigits u = Lib.decDigits u ++ [] from by simp, num_dec u []]
  · rfl
  · rintro (h | h | ⟨h, k⟩)
    · omega
    · omega
    · by_cases hu : 1 ≤ u
      · exact dec_head u hu k
      · obtain rfl : u = 0 := by omega
        rw [Lib.decDigits, dif_pos (by omega)] at h
        exact absurd h (by decide)
/-- a number of at most five digits is just what Atoi reads and Itoa writes again. -/
theorem num_yes {l : List UInt8} (h : 0 ≤ numOf l 5) : Lib.atoiAll l = .ok (numOf l 5) ∧ l.length ≤ 5 ∧ Lib.itoa (numOf l 5) = l := by
  have hb := numOf_back h
  have hlt := numOf_lt l
  refine ⟨?_, ?_, hb⟩
  · have := atoi_itoa h (by omega)
    rw [hb] at this
    exact this
  · unfold numOf at h
    split at h
    · omega
    · omega
theorem num_no {l : List UInt8} {n : Int} (h : numOf l 5 < 0) (h0 : 0 ≤ n) (hl : l.length ≤ 5) : Lib.itoa n ≠ l := by
  intro e
  have := numOf_itoa5 h0 (by rw [e]; exact hl)
  rw [e] at this
  omega

/-- both numbers of a rule's last word. -/
def two (l : List UInt8) : Option (Int × Int) :=
  if 0 ≤ numOf (Lib.cut l [45]).1 5 ∧ 0 ≤ numOf (Lib.cut l [45]).2.1 5 then some (numOf (Lib.cut l [45]).1 5, numOf (Lib.cut l [45]).2.1 5) else none
theorem cut_found (a r : List UInt8) (h : (45 : UInt8) ∉ a) : Lib.cut (a ++ 45 :: r) [45] = (a, r, true) := by
  unfold Lib.cut
  rw [index_hit 45 r a h, if_pos (by omega)]
  simp
theorem cut_missed (a : List UInt8) (h : (45 : UInt8) ∉ a) : Lib.cut a [45] = (a, [], false) := by
  unfold Lib.cut
  rw [index_miss 45 a h, if_neg (by omega)]
theorem num_nil : numOf [] 5 = -1 := by decide
/-- the document's way. -/
def twoR (l : List UInt8) : Option (Int × Int) :=
  match cutFrom 45 [] l with
  | [a, b] => if 0 ≤ numOf a.data.toList 5 ∧ 0 ≤ numOf b.data.toList 5 then some (numOf a.data.toList 5, numOf b.data.toList 5) else none
  | _ => none
theorem two_eq (l : List UInt8) : two l = twoR l := by
  unfold two twoR
  by_cases h : (45 : UInt8) ∈ l
  · obtain ⟨a, r, rfl, ha⟩ := split_mem h
    rw [cut_found a r ha, cut_hit 45 r a [] ha]
    by_cases hr : (45 : UInt8) ∈ r
    · obtain ⟨a2, r2, rfl, ha2⟩ := split_mem hr
      rw [cut_hit 45 r2 a2 [] ha2]
      have hb : numOf (a2 ++ 45 :: r2) 5 = -1 := numOf_bad (c := 45) (by decide) (by simp)
      have hn := cut_ne 45 r2 []
      match hc : cutFrom 45 [] r2, hn with
      | z :: t, _ =>
        simp only [hb]
        rw [if_neg (by omega)]
    · rw [cut_miss 45 r [] hr]
      simp
  · rw [cut_missed l h, cut_miss 45 l [] h]
    simp only [num_nil]
    rw [if_neg (by omega)]

/-- a name's number, by its place. -/
def nameOf (i : Nat) (x : ByteArray) : Option Nat :=
  if x = ⟨(nmW i 0).toArray⟩ then some 0 else if x = ⟨(nmW i 1).toArray⟩ then some 1 else if i = 2 ∧ x = ⟨(nmW i 2).toArray⟩ then some 2 else none
/-- a rule out of four words. -/
def rd4 (a b c d : ByteArray) : Option Rl :=
  match nameOf 0 a, nameOf 1 b, nameOf 2 c, two d.data.toList with
  | some i, some j, some k, some t => some ⟨i == 1, j == 1, (k : Int), t.1, t.2⟩
  | _, _, _, _ => none
theorem rd4_a {a b c d : ByteArray} (h : nameOf 0 a = none) : rd4 a b c d = none := by unfold rd4; rw [h]
theorem rd4_b {a b c d : ByteArray} (h : nameOf 1 b = none) : rd4 a b c d = none := by unfold rd4; rw [h]; cases nameOf 0 a <;> rfl
theorem rd4_c {a b c d : ByteArray} (h : nameOf 2 c = none) : rd4 a b c d = none := by unfold rd4; rw [h]; cases nameOf 0 a <;> cases nameOf 1 b <;> rfl
theorem rd4_d {a b c d : ByteArray} (h : two d.data.toList = none) : rd4 a b c d = none := by unfold rd4; rw [h]; cases nameOf 0 a <;> cases nameOf 1 b <;> cases nameOf 2 c <;> rfl
theorem rd4_ok {a b c d : ByteArray} {i j k : Nat} {t : Int × Int} (h0 : nameOf 0 a = some i) (h1 : nameOf 1 b = some j) (h2 : nameOf 2 c = some k) (h3 : two d.data.toList = some t) : rd4 a b c d = some ⟨i == 1, j == 1, (k : Int), t.1, t.2⟩ := by
  unfold rd4; rw [h0, h1, h2, h3]
/-- a rule's line, read. -/
def rdL (x : ByteArray) : Option Rl :=
  match cutFrom 32 [] x.data.toList with
  | [a, b, c, d] => rd4 a b c d
  | _ => none
theorem rdL_four {x a b c d : ByteArray} (h : [a, b, c, d] = cutFrom 32 [] x.data.toList) : rdL x = rd4 a b c d := by unfold rdL; rw [← h]
theorem rdL_odd {x : ByteArray} (h : ¬ (cutFrom 32 [] x.data.toList).length = 4) : rdL x = none := by
  unfold rdL
  split
  · rename_i e; rw [e] at h; exact absurd rfl h
  · rfl
def firstBad : List ByteArray → Nat → Option Nat
  | [], _ => none
  | z :: r, k => if (rdL z).isSome = true then firstBad r (k + 1) else some k
def rulesOf (L : List ByteArray) : List Rl := L.filterMap rdL
end Go.Proofs.YtpmoamfhppmicaaGreatDoor
