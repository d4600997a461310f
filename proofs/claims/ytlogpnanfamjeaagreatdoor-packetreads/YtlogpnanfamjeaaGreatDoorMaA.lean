/-
  Plain mathematics: a packet's bytes are read back; its text is parsed back.
-/
import Derived.Test.YtlogpnanfamjeaaGreatDoorPkW
import Derived.Test.YtlogpnanfamjeaaGreatDoorRfA
namespace Go.Proofs.YtlogpnanfamjeaaGreatDoor
open Go.RowKit

theorem numB_pk (l : List UInt8) (k : Nat) (f : Nat → Int) (hl : ∀ i, i < 4 → l.getD (k + i) 0 = UInt8.ofNat (f i).toNat) (hf : ∀ i, 0 ≤ f i ∧ f i < 256) :
    (numB l k 1 : Int) = f 0 ∧ (numB l k 2 : Int) = 256 * f 0 + f 1 ∧ (numB l k 4 : Int) = 256 * (256 * (256 * f 0 + f 1) + f 2) + f 3 := by
  have b : ∀ i, i < 4 → ((l.getD (k + i) 0).toNat : Int) = f i := fun i hi => by
    rw [hl i hi, UInt8.toNat_ofNat_of_lt' (by have := hf i; show (f i).toNat < 256; omega)]
    have := hf i; omega
  have b0 := b 0 (by omega)
  have b1 := b 1 (by omega)
  have b2 := b 2 (by omega)
  have b3 := b 3 (by omega)
  simp only [numB, Nat.add_zero] at *
  refine ⟨?_, ?_, ?_⟩ <;> omega
theorem pkN_bd (pr a1 p1 a2 p2 fl : Int) (j : Nat) : 0 ≤ (pkN pr a1 p1 a2 p2 fl).getD j 0 ∧ (pkN pr a1 p1 a2 p2 fl).getD j 0 < 256 := by
  match j with
  | 0 | 1 | 2 | 3 | 4 | 5 | 6 | 7 | 8 | 9 | 10 | 11 | 12 | 13 => simp [pkN] <;> omega
  | n + 14 => simp [pkN]
theorem pkS_at (pr a1 p1 a2 p2 fl : Int) (j : Nat) : (pkS pr a1 p1 a2 p2 fl).data.toList.getD j 0 = UInt8.ofNat ((pkN pr a1 p1 a2 p2 fl).getD j 0).toNat := by
  unfold pkS
  rw [strOfNums_data, List.getD_eq_getElem?_getD, List.getD_eq_getElem?_getD, List.getElem?_map]
  cases (pkN pr a1 p1 a2 p2 fl)[j]? <;> rfl
theorem pkS_size (pr a1 p1 a2 p2 fl : Int) : (pkS pr a1 p1 a2 p2 fl).size = 14 := by unfold pkS; rw [strOfNums_size]; rfl
/-- what is written is read: bytes. -/
theorem pkS_back {pr a1 p1 a2 p2 fl : Int} (h : PkOk pr a1 p1 a2 p2 fl) :
    N (pkS pr a1 p1 a2 p2 fl) 0 1 = pr ∧ N (pkS pr a1 p1 a2 p2 fl) 1 4 = a1 ∧ N (pkS pr a1 p1 a2 p2 fl) 5 2 = p1 ∧ N (pkS pr a1 p1 a2 p2 fl) 7 4 = a2 ∧ N (pkS pr a1 p1 a2 p2 fl) 11 2 = p2 ∧ N (pkS pr a1 p1 a2 p2 fl) 13 1 = fl := by
  obtain ⟨h1, ⟨g1, g2, g3, g4⟩, ⟨g5, g6, g7, g8⟩, g9, g10⟩ := h
  have k : ∀ k, _ := fun k => numB_pk (pkS pr a1 p1 a2 p2 fl).data.toList k (fun i => (pkN pr a1 p1 a2 p2 fl).getD (k + i) 0) (fun i _ => pkS_at _ _ _ _ _ _ _) (fun i => pkN_bd _ _ _ _ _ _ _)
  have k0 := (k 0).1
  have k1 := (k 1).2.2
  have k5 := (k 5).2.1
  have k7 := (k 7).2.2
  have k11 := (k 11).2.1
  have k13 := (k 13).1
  simp [pkN] at k0 k1 k5 k7 k11 k13
  refine ⟨?_, ?_, ?_, ?_, ?_, ?_⟩
  · show ((numB _ 0 1 : Nat) : Int) = _; omega
  · show ((numB _ 1 4 : Nat) : Int) = _; omega
  · show ((numB _ 5 2 : Nat) : Int) = _; omega
  · show ((numB _ 7 4 : Nat) : Int) = _; omega
  · show ((numB _ 11 2 : Nat) : Int) = _; omega
  · show ((numB _ 13 1 : Nat) : Int) = _; omega

theorem index_hit (c : UInt8) (r : List UInt8) : ∀ (a : List UInt8), c ∉ a → Lib.index (a ++ c :: r) [c] = a.length
  | [], _ => by simp [Lib.index]
  | b :: a, h => by
    have hb : ¬ c = b := fun e => h (by simp [e])
    have ih := index_hit c r a (fun e => h (by simp [e]))
    simp only [List.cons_append, Lib.index]
    rw [if_neg (by simp [hb]), ih, if_neg (by simp <;> omega)]
    simp
theorem index_miss (c : UInt8) : ∀ (a : List UInt8), c ∉ a → Lib.index a [c] = -1
  | [], _ => by simp [Lib.index]
  | b :: a, h => by
    have hb : ¬ c = b := fun e => h (by simp [e])
    have ih := index_miss c a (fun e => h (by simp [e]))
    simp only [Lib.index]
    rw [if_neg (by simp [hb]), ih]; rfl
theorem words_hit (c : UInt8) (a r : List UInt8) (h : c ∉ a) : words ⟨(a ++ c :: r).toArray⟩ c = ⟨a.toArray⟩ :: words ⟨r.toArray⟩ c := by
  have hi : Lib.indexB ⟨(a ++ c :: r).toArray⟩ ⟨#[c]⟩ = (a.length : Int) := by
    show Lib.index _ _ = _
    simpa using index_hit c r a h
  have hz : (⟨#[c]⟩ : ByteArray).size = 1 := rfl
  have he : (⟨(a ++ c :: r).toArray⟩ : ByteArray).extract (a.length + (⟨#[c]⟩ : ByteArray).size) (⟨(a ++ c :: r).toArray⟩ : ByteArray).size = ⟨r.toArray⟩ := by
    apply ByteArray.ext
    apply Array.ext'
    rw [Lib.extract_to_end, hz]
    simp
  have he2 : (⟨(a ++ c :: r).toArray⟩ : ByteArray).extract 0 (a.length + 0) = ⟨a.toArray⟩ := by
    apply ByteArray.ext
    apply Array.ext'
    rw [Lib.extract_from_zero]
    simp
  unfold words
  rw [Lib.countB_hit _ _ a.length (by rw [hz]; omega) hi, he, Nat.add_comm, Lib.splitB_hit _ _ _ _ a.length hi, he, he2]
theorem words_miss (c : UInt8) (a : List UInt8) (h : c ∉ a) : words ⟨a.toArray⟩ c = [⟨a.toArray⟩] := by
  unfold words
  rw [Lib.splitB_miss]
  show Lib.index _ _ = _
  simpa using index_miss c a h

theorem parse_dec : ∀ (u : Nat) (r : List UInt8), u < 1000000000 → Lib.parseUint10 0 (Lib.decDigits u ++ r) = Lib.parseUint10 u r := by
  intro u
  induction u using Nat.strongRecOn with
  | _ u ih =>
    intro r hu
    rw [Lib.decDigits]
    split
    · rename_i h
      have e : (UInt8.ofNat (48 + u)).toNat = 48 + u := UInt8.toNat_ofNat_of_lt' (by show 48 + u < 256; omega)
      simp only [List.cons_append, List.nil_append, Lib.parseUint10]
      rw [e, if_pos (by omega), if_neg (by omega), if_neg (by omega), show 0 * 10 + (48 + u - 48) = u from by omega]
    · rename_i h
      have e : (UInt8.ofNat (48 + u % 10)).toNat = 48 + u % 10 := UInt8.toNat_ofNat_of_lt' (by show 48 + u % 10 < 256; omega)
      rw [List.append_assoc, ih (u / 10) (by omega) _ (by omega)]
      simp only [List.cons_append, List.nil_append, Lib.parseUint10]
      rw [e, if_pos (by omega), if_neg (by omega), if_neg (by omega), show u / 10 * 10 + (48 + u % 10 - 48) = u from by omega]
theorem atoi_dec (u : Nat) (hu : u < 1000000000) : Lib.atoiAll (Lib.decDigits u) = .ok (u : Int) := by
  have hp := parse_dec u [] hu
  have hpos := dec_pos u
  have hdig := dec_digit u
  rw [List.append_nil] at hp
  generalize Lib.decDigits u = l at *
  match l, hpos with
  | c :: r, _ =>
    have hc := hdig c (by simp)
    simp only [Lib.atoiAll]
    rw [if_neg (by omega)]
    unfold Lib.parseMag
    rw [if_neg (by simp), hp]
    simp only [Lib.parseUint10]
    rw [if_neg (by omega), if_neg (by omega), if_neg (by omega)]
theorem atoi_itoa {n : Int} (h0 : 0 ≤ n) (h1 : n < 1000000000) : Lib.atoiAll (Lib.itoa n) = .ok n := by
  rw [itoa_nn h0, atoi_dec _ (by omega), Int.toNat_of_nonneg h0]
theorem itoa_no {n : Int} (h0 : 0 ≤ n) (c : UInt8) (hc : c.toNat < 48 ∨ 57 < c.toNat) : c ∉ Lib.itoa n := by
  rw [itoa_nn h0]
  intro h
  have := dec_digit _ _ h
  omega
theorem pe_endL {a p : Int} (h : okEnd a p) : pe (endL a p) = some (a, p) := by
  obtain ⟨g1, g2, g3, g4⟩ := h
  have hi := index_hit 58 (Lib.itoa p) (Lib.itoa a) (itoa_no g1 58 (by right; decide))
  have hc : Lib.cut (endL a p) [58] = (Lib.itoa a, Lib.itoa p, true) := by
    unfold Lib.cut endL
    rw [hi, if_pos (by omega)]
    simp
  unfold pe
  rw [hc]
  simp only [if_true]
  rw [atoi_itoa g1 (by omega), atoi_itoa (by omega) (by omega)]
theorem endL_no {a p : Int} (h : okEnd a p) : (32 : UInt8) ∉ endL a p := by
  obtain ⟨g1, g2, g3, g4⟩ := h
  unfold endL
  rw [List.mem_append, List.mem_cons]
  rintro (h | h | h)
  · exact itoa_no g1 32 (by left; decide) h
  · exact absurd h (by decide)
  · exact itoa_no (show 0 ≤ p by omega) 32 (by left; decide) h
theorem fText_no (fl : Int) (h0 : 0 ≤ fl) (h1 : fl ≤ 15) : (32 : UInt8) ∉ fText fl := by
  have h : ∀ a : Fin 16, (32 : UInt8) ∉ fText (a.val : Int) := by decide +kernel
  obtain ⟨n, rfl⟩ := Int.eq_ofNat_of_zero_le h0
  exact h ⟨n, by omega⟩
theorem pf_fText (fl : Int) (h0 : 0 ≤ fl) (h1 : fl ≤ 15) : pf ⟨(fText fl).toArray⟩ = some fl := by
  have h : ∀ a : Fin 16, pf ⟨(fText (a.val : Int)).toArray⟩ = some (a.val : Int) := by decide +kernel
  obtain ⟨n, rfl⟩ := Int.eq_ofNat_of_zero_le h0
  exact h ⟨n, by omega⟩
/-- what is written is read: a text. -/
theorem parse_text {pr a1 p1 a2 p2 fl : Int} (h : PkOk pr a1 p1 a2 p2 fl) : parseP ⟨(pText pr a1 p1 a2 p2 fl).toArray⟩ = some (pr, a1, p1, a2, p2, fl) := by
  obtain ⟨h1, h2, h3, h4, h5⟩ := h
  rcases h1 with ⟨rfl, rfl⟩ | rfl
  · have hw : words ⟨(pText 1 a1 p1 a2 p2 0).toArray⟩ 32 = [⟨#[117, 100, 112]⟩, ⟨(endL a1 p1).toArray⟩, ⟨(endL a2 p2).toArray⟩] := by
      unfold pText
      rw [if_pos rfl, if_neg (by decide), List.append_nil, words_hit _ _ _ (by decide), words_hit _ _ _ (endL_no h2), words_miss _ _ (endL_no h3)]
    unfold parseP
    rw [hw]
    simp only [if_true]
    rw [pe_endL h2, pe_endL h3]
    rfl
  · have hw : words ⟨(pText 2 a1 p1 a2 p2 fl).toArray⟩ 32 = [⟨#[116, 99, 112]⟩, ⟨(endL a1 p1).toArray⟩, ⟨(endL a2 p2).toArray⟩, ⟨(fText fl).toArray⟩] := by
      unfold pText
      rw [if_neg (by decide), if_pos rfl, words_hit _ _ _ (by decide), words_hit _ _ _ (endL_no h2), words_hit _ _ _ (endL_no h3), words_miss _ _ (fText_no fl h4 h5)]
    unfold parseP
    rw [hw]
    simp only [if_true]
    rw [pe_endL h2, pe_endL h3, pf_fText fl h4 h5]
    rfl
theorem wide4_eq (n : Int) : wideL n 4 = [UInt8.ofNat (n / 16777216 % 256).toNat, UInt8.ofNat (n / 65536 % 256).toNat, UInt8.ofNat (n / 256 % 256).toNat, UInt8.ofNat (n % 256).toNat] := by
  rw [wideL_snoc, wideL_snoc, wideL_snoc, wideL_snoc]; simp [wideL]
theorem wide2_eq (n : Int) : wideL n 2 = [UInt8.ofNat (n / 256 % 256).toNat, UInt8.ofNat (n % 256).toNat] := by
  rw [wideL_snoc, wideL_snoc]; simp [wideL]
theorem pkS_eq {pr a1 p1 a2 p2 fl : Int} (h : PkOk pr a1 p1 a2 p2 fl) :
    pkS pr a1 p1 a2 p2 fl = ⟨(UInt8.ofNat pr.toNat :: (wideL a1 4 ++ (wideL p1 2 ++ (wideL a2 4 ++ (wideL p2 2 ++ [UInt8.ofNat fl.toNat]))))).toArray⟩ := by
  obtain ⟨h1, _, _, g9, g10⟩ := h
  have e1 : pr % 256 = pr := by omega
  have e2 : fl % 256 = fl := by omega
  rw [wide4_eq, wide4_eq, wide2_eq, wide2_eq]
  unfold pkS strOfNums pkN
  rw [e1, e2]
  rfl
end Go.Proofs.YtlogpnanfamjeaaGreatDoor
