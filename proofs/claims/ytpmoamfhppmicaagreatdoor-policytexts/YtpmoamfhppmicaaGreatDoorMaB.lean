/-
  Plain mathematics: the document's numbers and words, read and written.
-/
import Derived.Test.YtpmoamfhppmicaaGreatDoorRfK
import Derived.Test.YtpmoamfhppmicaaGreatDoorNum
namespace Go.Proofs.YtpmoamfhppmicaaGreatDoor
open Go.RowKit

theorem dec_more (a d : Nat) (ha : 0 < a) (hd : d < 10) : Lib.decDigits (10 * a + d) = Lib.decDigits a ++ [UInt8.ofNat (48 + d)] := by
  rw [Lib.decDigits, dif_neg (by omega), show (10 * a + d) / 10 = a from by omega, show (10 * a + d) % 10 = d from by omega]
theorem digit_eq (c : UInt8) (h : 48 ≤ c.toNat) : UInt8.ofNat (48 + (c.toNat - 48)) = c := by
  rw [show 48 + (c.toNat - 48) = c.toNat from by omega, UInt8.ofNat_toNat]
theorem num_back : ∀ (l : List UInt8) (acc : Nat), 0 < acc → 0 ≤ numFrom acc l → Lib.decDigits (numFrom acc l).toNat = Lib.decDigits acc ++ l
  | [], acc, _, _ => by simp [numFrom]
  | c :: r, acc, ha, h => by
    unfold numFrom at h ⊢
    split at h
    · rename_i hc
      rw [if_pos hc, num_back r _ (by omega) h, dec_more acc _ ha (by omega), digit_eq c hc.1]
      simp
    · omega
theorem numOf_back {l : List UInt8} {m : Nat} (h : 0 ≤ numOf l m) : Lib.itoa (numOf l m) = l := by
  rw [itoa_nn h]
  unfold numOf at h ⊢
  split at h
  · omega
  · rename_i hn
    rw [if_neg hn]
    match l, hn, h with
    | c :: r, hn, h =>
      unfold numFrom at h ⊢
      split at h
      · rename_i hc
        rw [if_pos hc]
        by_cases hz : c = 48
        · have hr : r = [] := by
            match r, hn with
            | [], _ => rfl
            | b :: r, hn => exact absurd (Or.inr (Or.inr ⟨by simp, by simpa using hz⟩)) hn
          subst hr; subst hz
          show Lib.decDigits 0 = [48]
          rw [Lib.decDigits, dif_pos (by omega)]; rfl
        · have hc2 : c.toNat ≠ 48 := fun e => hz (UInt8.toNat_inj.1 e)
          rw [num_back r _ (by omega) h, show 10 * 0 + (c.toNat - 48) = c.toNat - 48 from by omega, Lib.decDigits, dif_pos (by omega), digit_eq c hc.1]
          rfl
      · omega
    | [], hn, _ => simp at hn
theorem num_dec : ∀ (u : Nat) (r : List UInt8), numFrom 0 (Lib.decDigits u ++ r) = numFrom u r := by
  intro u
  induction u using Nat.strongRecOn with
  | _ u ih =>
    intro r
    rw [Lib.decDigits]
    split
    · rename_i h
      have e : (UInt8.ofNat (48 + u)).toNat = 48 + u := UInt8.toNat_ofNat_of_lt' (by show 48 + u < 256; omega)
      simp only [List.cons_append, List.nil_append, numFrom]
      rw [e, if_pos (by omega), show 10 * 0 + (48 + u - 48) = u from by omega]
    · rename_i h
      have e : (UInt8.ofNat (48 + u % 10)).toNat = 48 + u % 10 := UInt8.toNat_ofNat_of_lt' (by show 48 + u % 10 < 256; omega)
      rw [List.append_assoc, ih (u / 10) (by omega) _]
      simp only [List.cons_append, List.nil_append, numFrom]
      rw [e, if_pos (by omega), show 10 * (u / 10) + (48 + u % 10 - 48) = u from by omega]
theorem dec_head : ∀ (u : Nat), 1 ≤ u → (Lib.decDigits u).getD 0 0 ≠ 48 := by
  intro u
  induction u using Nat.strongRecOn with
  | _ u ih =>
    intro hu
    rw [Lib.decDigits]
    split
    · rename_i h
      intro e
      have e : UInt8.ofNat (48 + u) = 48 := by simpa using e
      have := congrArg UInt8.toNat e
      rw [UInt8.toNat_ofNat_of_lt' (by show 48 + u < 256; omega)] at this
      have : 48 + u = 48 := this
      omega
    · have := ih (u / 10) (by omega) (by omega)
      have hp := dec_pos (u / 10)
      rw [List.getD_eq_getElem?_getD, List.getElem?_append_left (by omega), ← List.getD_eq_getElem?_getD]
      exact this
theorem numOf_itoa {n : Int} (h0 : 0 ≤ n) (h1 : n < 1000000000) : numOf (Lib.itoa n) 9 = n := by
  rw [itoa_nn h0]
  obtain ⟨u, rfl⟩ := Int.eq_ofNat_of_zero_le h0
  rw [Int.toNat_natCast]
  unfold numOf
  have hl := dec_len 9 u (by omega) (by omega)
  have hp := dec_pos u
  rw [if_neg, show Lib.decDigits u = Lib.decDigits u ++ [] from by simp, num_dec u []]
  · rfl
  · rintro (h | h | ⟨h, k⟩)
    · omega
    · omega
    · by_cases hu : 1 ≤ u
      · exact dec_head u hu k
      · obtain rfl : u = 0 := by omega
        rw [Lib.decDigits, dif_pos (by omega)] at h
        exact absurd h (by decide)

theorem cut_hit (c : UInt8) (r : List UInt8) : ∀ (a p : List UInt8), c ∉ a → cutFrom c p (a ++ c :: r) = ⟨(p ++ a).toArray⟩ :: cutFrom c [] r
  | [], p, _ => by simp [cutFrom]
  | b :: a, p, h => by
    have hb : ¬ b = c := fun e => h (by simp [e])
    have ih := cut_hit c r a (p ++ [b]) (fun e => h (by simp [e]))
    simp only [List.cons_append, cutFrom]
    rw [if_neg hb, ih]
    simp
theorem cut_miss (c : UInt8) : ∀ (a p : List UInt8), c ∉ a → cutFrom c p a = [⟨(p ++ a).toArray⟩]
  | [], p, _ => by simp [cutFrom]
  | b :: a, p, h => by
    have hb : ¬ b = c := fun e => h (by simp [e])
    have ih := cut_miss c a (p ++ [b]) (fun e => h (by simp [e]))
    simp only [cutFrom]
    rw [if_neg hb, ih]
    simp
def glue (c : UInt8) : List ByteArray → List UInt8
  | [] => []
  | [a] => a.data.toList
  | a :: b :: r => a.data.toList ++ c :: glue c (b :: r)
theorem cut_ne (c : UInt8) : ∀ (r a : List UInt8), cutFrom c a r ≠ []
  | [], _ => by simp [cutFrom]
  | b :: r, a => by
    unfold cutFrom
    split
    · simp
    · exact cut_ne c r _
theorem cut_glue (c : UInt8) : ∀ (r a : List UInt8), glue c (cutFrom c a r) = a ++ r
  | [], a => by simp [cutFrom, glue]
  | b :: r, a => by
    unfold cutFrom
    split
    · rename_i h
      have ih := cut_glue c r []
      have hn := cut_ne c r []
      generalize cutFrom c [] r = l at *
      match l, hn with
      | x :: t, _ => simp only [glue]; rw [ih, h]; simp
    · rw [cut_glue c r]; simp
theorem cut_size (c : UInt8) : ∀ (r a : List UInt8) (z : ByteArray), z ∈ cutFrom c a r → z.size ≤ a.length + r.length
  | [], a, z, h => by
    simp [cutFrom] at h; subst h; simp [ByteArray.size]
  | b :: r, a, z, h => by
    unfold cutFrom at h
    split at h
    · rcases List.mem_cons.1 h with h | h
      · subst h; simp [ByteArray.size]
      · have := cut_size c r [] z h; simp at this ⊢; omega
    · have := cut_size c r (a ++ [b]) z h; simp at this ⊢; omega
end Go.Proofs.YtpmoamfhppmicaaGreatDoor
