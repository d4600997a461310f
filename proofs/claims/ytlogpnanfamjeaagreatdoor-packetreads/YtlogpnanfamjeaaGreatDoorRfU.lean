/-
  The document's answer: PacketRead of any text; what it reads is what PacketText writes.
-/
import Derived.Test.YtlogpnanfamjeaaGreatDoorRfT
import Derived.Test.YtlogpnanfamjeaaGreatDoorMaA
namespace Go.Proofs.YtlogpnanfamjeaaGreatDoor
open Go.RowKit

def pktO : Option (Int × Int × Int × Int × Int × Int) → Value
  | none => pkt 0 0 0 0 0 0
  | some (pr, a1, p1, a2, p2, fl) => pkt pr a1 p1 a2 p2 fl
theorem pread_any (x : ByteArray) (hx : x.size ≤ 1000) (w : World) :
    Calls Tryz.prog 16 #[.string x] w fun e w' => e = .returned (.tuple #[pktO (rdR x), .bool (rdR x).isSome]) ∧ Below w.heap.size w w' := by
  have hsz : ∀ z, z ∈ cutFrom 32 [] x.data.toList → z.size ≤ 1000 := fun z hz => by
    have := cut_size 32 x.data.toList [] z hz
    rw [bytes_len] at this
    simp at this; omega
  unfold rdR
  split
  · rename_i a b c hc
    rw [hc] at hsz
    by_cases ha : a = ⟨#[117, 100, 112]⟩
    · subst ha
      have k := pread_udp x b c hx hc (endR b).1 (endR b).2.1 (endR c).1 (endR c).2.1 (endR b).2.2 (endR c).2.2 (endOf_any b (hsz b (by simp))) (endOf_any c (hsz c (by simp))) _ rfl w
      refine k.mono fun e w' ⟨he, hb⟩ => ⟨?_, hb⟩
      rw [he]
      cases (endR b).2.2 <;> cases (endR c).2.2 <;> rfl
    · rw [if_neg (fun h => ha h.1)]
      exact pread_head x a [b, c] hx hc 3 rfl (Or.inr ⟨rfl, ha⟩) w
  · rename_i a b c f hc
    rw [hc] at hsz
    by_cases ha : a = ⟨#[116, 99, 112]⟩
    · subst ha
      cases ho : flTo f 16 with
      | none =>
        have k := pread_tcp x b c f hx hc (endR b).1 (endR b).2.1 (endR c).1 (endR c).2.1 (endR b).2.2 (endR c).2.2 (endOf_any b (hsz b (by simp))) (endOf_any c (hsz c (by simp))) none ho _ (Or.inl ⟨rfl, rfl⟩) _ rfl w
        refine k.mono fun e w' ⟨he, hb⟩ => ⟨?_, hb⟩
        rw [he]
        cases (endR b).2.2 <;> cases (endR c).2.2 <;> rfl
      | some fl =>
        have k := pread_tcp x b c f hx hc (endR b).1 (endR b).2.1 (endR c).1 (endR c).2.1 (endR b).2.2 (endR c).2.2 (endOf_any b (hsz b (by simp))) (endOf_any c (hsz c (by simp))) (some fl) ho _ (Or.inr ⟨fl, rfl, rfl⟩) _ rfl w
        refine k.mono fun e w' ⟨he, hb⟩ => ⟨?_, hb⟩
        rw [he]
        cases (endR b).2.2 <;> cases (endR c).2.2 <;> rfl
    · rw [if_neg (fun h => ha h.1)]
      exact pread_head x a [b, c, f] hx hc 4 rfl (Or.inl ⟨rfl, ha⟩) w
  · rename_i h3 h4
    refine pread_len x hx (fun e => ?_) (fun e => ?_) w
    · match hc : cutFrom 32 [] x.data.toList, e with
      | [a, b, c], _ => exact h3 a b c hc
    · match hc : cutFrom 32 [] x.data.toList, e with
      | [a, b, c, f], _ => exact h4 a b c f hc

/-- an end that is read is one that is written so. -/
theorem endR_back {x : ByteArray} (h : (endR x).2.2 = true) : okEnd (endR x).1 (endR x).2.1 ∧ x.data.toList = endL (endR x).1 (endR x).2.1 := by
  unfold endR at h ⊢
  split at h
  · rename_i u v hc
    have hg := cut_glue 58 x.data.toList []
    rw [hc] at hg
    have ho : okEnd (numOf u.data.toList 9) (numOf v.data.toList 9) := endB_ok.1 h
    refine ⟨ho, ?_⟩
    show _ = Lib.itoa (numOf u.data.toList 9) ++ 58 :: Lib.itoa (numOf v.data.toList 9)
    rw [numOf_back ho.1, numOf_back (by have := ho.2.2.1; omega)]
    simpa [glue] using hg.symm
  · cases h
theorem endR_endL {a p : Int} (h : okEnd a p) : endR ⟨(endL a p).toArray⟩ = (a, p, true) := by
  obtain ⟨g1, g2, g3, g4⟩ := h
  have hc : cutFrom 58 [] (⟨(endL a p).toArray⟩ : ByteArray).data.toList = [⟨(Lib.itoa a).toArray⟩, ⟨(Lib.itoa p).toArray⟩] := by
    show cutFrom 58 [] (endL a p) = _
    unfold endL
    rw [cut_hit 58 _ _ [] (itoa_no g1 58 (by right; decide)), cut_miss 58 _ [] (itoa_no (show 0 ≤ p by omega) 58 (by right; decide))]
    simp
  unfold endR
  rw [hc]
  show (numOf (Lib.itoa a) 9, numOf (Lib.itoa p) 9, endB (numOf (Lib.itoa a) 9) (numOf (Lib.itoa p) 9)) = _
  rw [numOf_itoa g1 (by omega), numOf_itoa (by omega) (by omega), endB_ok.2 ⟨g1, g2, g3, g4⟩]
theorem flTo_back {f : ByteArray} {fl : Int} : ∀ {k : Nat}, flTo f k = some fl → 0 ≤ fl ∧ fl < k ∧ f = ⟨(fText fl).toArray⟩
  | 0, h => by cases h
  | k + 1, h => by
    unfold flTo at h
    split at h
    · rename_i e
      cases h
      exact ⟨by omega, by omega, e⟩
    · have := flTo_back h
      exact ⟨this.1, by have := this.2.1; omega, this.2.2⟩
theorem flTo_text (fl : Int) (h0 : 0 ≤ fl) (h1 : fl ≤ 15) : flTo ⟨(fText fl).toArray⟩ 16 = some fl := by
  have h : ∀ a : Fin 16, flTo ⟨(fText (a.val : Int)).toArray⟩ 16 = some (a.val : Int) := by decide +kernel
  obtain ⟨n, rfl⟩ := Int.eq_ofNat_of_zero_le h0
  exact h ⟨n, by omega⟩
theorem rdR_back {x : ByteArray} {pr a1 p1 a2 p2 fl : Int} (h : rdR x = some (pr, a1, p1, a2, p2, fl)) : PkOk pr a1 p1 a2 p2 fl ∧ x = ⟨(pText pr a1 p1 a2 p2 fl).toArray⟩ := by
  have hg := cut_glue 32 x.data.toList []
  have hx : ∀ l : List UInt8, x.data.toList = l → x = ⟨l.toArray⟩ := fun l hl => by
    apply ByteArray.ext; apply Array.ext'; simpa using hl
  unfold rdR at h
  split at h
  · rename_i a b c hc
    split at h
    · rename_i hh
      obtain ⟨rfl, hb, hd⟩ := hh
      have e1 := endR_back hb
      have e2 := endR_back hd
      cases h
      rw [hc] at hg
      refine ⟨⟨Or.inl ⟨rfl, rfl⟩, e1.1, e2.1, by omega, by omega⟩, hx _ ?_⟩
      unfold pText
      rw [← e1.2, ← e2.2]
      simpa [glue] using hg.symm
    · cases h
  · rename_i a b c f hc
    split at h
    · rename_i hh
      obtain ⟨rfl, hb, hd⟩ := hh
      have e1 := endR_back hb
      have e2 := endR_back hd
      cases hf : flTo f 16 with
      | none => rw [hf] at h; cases h
      | some g =>
        rw [hf] at h
        cases h
        obtain ⟨f0, f1, f2⟩ := flTo_back hf
        rw [hc] at hg
        refine ⟨⟨Or.inr rfl, e1.1, e2.1, f0, by omega⟩, hx _ ?_⟩
        unfold pText
        rw [← e1.2, ← e2.2]
        rw [f2] at hg
        simpa [glue] using hg.symm
    · cases h
  · cases h
theorem rdR_text {pr a1 p1 a2 p2 fl : Int} (h : PkOk pr a1 p1 a2 p2 fl) : rdR ⟨(pText pr a1 p1 a2 p2 fl).toArray⟩ = some (pr, a1, p1, a2, p2, fl) := by
  obtain ⟨h1, h2, h3, h4, h5⟩ := h
  rcases h1 with ⟨rfl, rfl⟩ | rfl
  · have hw : cutFrom 32 [] (⟨(pText 1 a1 p1 a2 p2 0).toArray⟩ : ByteArray).data.toList = [⟨#[117, 100, 112]⟩, ⟨(endL a1 p1).toArray⟩, ⟨(endL a2 p2).toArray⟩] := by
      show cutFrom 32 [] (pText 1 a1 p1 a2 p2 0) = _
      unfold pText
      rw [if_pos rfl, if_neg (by decide), List.append_nil, cut_hit _ _ _ [] (by decide), cut_hit _ _ _ [] (endL_no h2), cut_miss _ _ [] (endL_no h3)]
      simp
    unfold rdR
    rw [hw]
    simp only [endR_endL h2, endR_endL h3, if_true, and_self]
  · have hw : cutFrom 32 [] (⟨(pText 2 a1 p1 a2 p2 fl).toArray⟩ : ByteArray).data.toList = [⟨#[116, 99, 112]⟩, ⟨(endL a1 p1).toArray⟩, ⟨(endL a2 p2).toArray⟩, ⟨(fText fl).toArray⟩] := by
      show cutFrom 32 [] (pText 2 a1 p1 a2 p2 fl) = _
      unfold pText
      rw [if_neg (by decide), if_pos rfl, cut_hit _ _ _ [] (by decide), cut_hit _ _ _ [] (endL_no h2), cut_hit _ _ _ [] (endL_no h3), cut_miss _ _ [] (fText_no fl h4 h5)]
      simp
    unfold rdR
    rw [hw]
    simp only [endR_endL h2, endR_endL h3, if_true, and_self, flTo_text fl h4 h5]
    rfl
end Go.Proofs.YtlogpnanfamjeaaGreatDoor
