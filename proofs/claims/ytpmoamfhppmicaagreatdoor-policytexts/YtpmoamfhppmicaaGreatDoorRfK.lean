/-
  The document's answer: Cut.
-/
import Derived.Test.YtpmoamfhppmicaaGreatDoorRfN
import Derived.OwnWalk
namespace Go.Proofs.YtpmoamfhppmicaaGreatDoor
open Go.RowKit

/-- words of a text behind one that is begun. -/
def cutFrom (c : UInt8) : List UInt8 → List UInt8 → List ByteArray
  | a, [] => [⟨a.toArray⟩]
  | a, b :: r => if b = c then ⟨a.toArray⟩ :: cutFrom c [] r else cutFrom c (a ++ [b]) r
theorem Tryz.infoSr : (Tryz.prog.info? 9).map (fun i => (i.zero, i.size, i.bytes)) = some (some (.string ByteArray.empty), 1, 16) := by kernel_rfl
theorem one_byte (x : ByteArray) (k : Nat) (h : k < x.size) : x.extract ((k : Int)).toNat ((k : Int) + 1).toNat = ⟨#[x[k]]⟩ := by
  apply ByteArray.ext
  rw [ByteArray.data_extract, show ((k : Int)).toNat = k from by omega, show ((k : Int) + 1).toNat = k + 1 from by omega]
  apply Array.ext
  · simp; have : x.data.size = x.size := rfl; omega
  · intro i h1 h2
    obtain rfl : i = 0 := by simp at h2; omega
    simp; rfl
theorem row_more {b0 : Nat} {w0 wr w1 : World} {v v' y : Value} {L : List ByteArray} {z : ByteArray} (hown : wr.ownsRow b0 9 1 v L.length (L.map Value.string)) (hb : Below b0 w0 wr) (hs : b0 ≤ wr.heap.size)
    (o' : w1.ownsRow b0 9 1 v' (L.length + 1) (L.map Value.string ++ [.string z])) (hg : (wr.alloc (.cells #[y] 9)).grownBy w1 v.ownBlock) :
    w1.ownsRow b0 9 1 v' (L ++ [z]).length ((L ++ [z]).map Value.string) ∧ Below b0 w0 w1 := by
  refine ⟨?_, (hb.alloc hs _).grown hg (by simp; omega) (fun j hj => (hown.lt _ hj).1)⟩
  simpa using o'

set_option maxRecDepth 100000 in
set_option maxHeartbeats 4000000 in
theorem cutRef_big (x : ByteArray) (hx : x.size ≤ 4000) (c : UInt8) (w : World) :
    Calls Tryz.prog 24 #[.string x, .int .u8 c.toNat] w fun e w' => (∃ g cap, e = .returned (.slice (some ⟨g, 0, none⟩) (cutFrom c [] x.data.toList).length cap) ∧
      ∀ (j : Nat) z, (cutFrom c [] x.data.toList)[j]? = some z → w'.cell? ⟨g, j, none⟩ = some (.string z)) ∧ Below w.heap.size w w' := by
  obtain ⟨i0, hi, hz0, hz1, hz2⟩ := info_parts Tryz.infoSr
  have hc := c.toNat_lt
  generalize hcn : c.toNat = cn at *
  have HCN : Hid (c.toNat = cn) := hcn
  clear hcn
  go_enter Tryz.func24, Tryz.ntmps24
  go_wp2_with fail
  go_loopw [5, 6, 7] (fun v a t wr => ∃ k : Nat, ∃ L : List ByteArray, ∃ W : List UInt8, k ≤ x.size ∧ L.length ≤ k ∧ W.length ≤ k ∧ t = .int .i64 k ∧ a = .string ⟨W.toArray⟩ ∧ L ++ cutFrom c W (x.data.toList.drop k) = cutFrom c [] x.data.toList ∧ wr.ownsRow w.heap.size 9 1 v L.length (L.map Value.string) ∧ Below w.heap.size w wr) (fun _ _ t _ => x.size - (intOf t).toNat)
  case atStart => exact ⟨0, [], [], by omega, by simp, by simp, rfl, rfl, rfl, World.ownsRow_nil _ _ _ _, Below.refl _ _⟩
  case round =>
    obtain ⟨k, L, W, hk, hL, hW, rfl, rfl, hcut, hown, hb⟩ := hrel
    have HO : Hid (wr.ownsRow w.heap.size 9 1 u5 L.length (L.map Value.string)) := hown
    have HB : Hid (Below w.heap.size w wr) := hb
    have HC : Hid (L ++ cutFrom c W (x.data.toList.drop k) = cutFrom c [] x.data.toList) := hcut
    clear hown hb hcut
    by_cases hlt : k < x.size
    · have hd : x.data.toList.drop k = x[k] :: x.data.toList.drop (k + 1) := by
        rw [List.drop_eq_getElem_cons (by rw [bytes_len]; exact hlt)]; rfl
      rw [hd] at HC
      have HC : Hid (L ++ (if x[k] = c then ⟨W.toArray⟩ :: cutFrom c [] (x.data.toList.drop (k + 1)) else cutFrom c (W ++ [x[k]]) (x.data.toList.drop (k + 1))) = cutFrom c [] x.data.toList) := HC
      clear hd
      by_cases he : x[k] = c
      · have hq : ((x[k].toNat : Int) == (cn : Int)) = true := beq_iff_eq.2 (by rw [he, HCN.out])
        have HE : Hid (x[k] = c) := he
        clear he
        go_wp2_with (at_builtin; refine wpList_append_own _ rfl _ _ 55 rfl w.heap.size 9 i0 (.string ByteArray.empty) 1 16 Tryz.underlying55 hi hz0 hz1 hz2 rfl (by decide) _ _ _ rfl (HO.out.alloc _) ⟨wr.heap.size, 0, none⟩ 1 1 [.string ⟨W.toArray⟩] rfl rfl ?c1 ?c2 ?c3 ?c4 ?c5 ?_)
        case c1 =>
          intro j u hj
          match j, hj with
          | 0, hj => simp at hj; subst hj; simp [Addr.add]
        case c2 => intro u hu; simp at hu; subst hu; rfl
        case c3 => unfold maxLen; omega
        case c4 => omega
        case c5 => have := HB.out.size; simp; omega
        intro v' w1 hown' hgrow _
        have HR : Hid (w1.ownsRow w.heap.size 9 1 v' (L ++ [(⟨W.toArray⟩ : ByteArray)]).length ((L ++ [(⟨W.toArray⟩ : ByteArray)]).map Value.string) ∧ Below w.heap.size w w1) := row_more HO.out HB.out HB.out.size hown' hgrow
        clear hown' hgrow
        go_wp2_with fail
        go_roundw
        case rel => exact ⟨k + 1, L ++ [(⟨W.toArray⟩ : ByteArray)], [], by omega, by simp; omega, by simp, by go_num, rfl, by rw [← HC.out, if_pos HE.out]; simp, HR.out.1, HR.out.2⟩
        case measure => simp [intOf]; omega
      · have hq : ((x[k].toNat : Int) == (cn : Int)) = false := beq_eq_false_iff_ne.2 (fun e => he (UInt8.toNat_inj.1 (by rw [HCN.out]; omega)))
        have HE : Hid (¬ x[k] = c) := he
        clear he
        have sl : ∀ v : World, (Instr.slice 9 (.string x) (some (.int .i64 k)) (some (.int .i64 ((k : Int) + 1))) none).run Tryz.prog v = .ok (.string ⟨#[x[k]]⟩) v := by
          intro v
          rw [run_slice_string v 9 x .i64 .i64 k ((k : Int) + 1) Tryz.underlying9 (by omega) (by omega) (by omega), one_byte x k hlt]
        go_wp2_with fail
        go_roundw
        case rel => exact ⟨k + 1, L, W ++ [x[k]], by omega, by omega, by simp; omega, by go_num, congrArg Value.string (by apply ByteArray.ext; simp [ByteArray.data_append]), by rw [← HC.out, if_neg HE.out], HO.out, HB.out⟩
        case measure => simp [intOf]; omega
    · obtain rfl : k = x.size := by omega
      rw [List.drop_of_length_le (by rw [bytes_len]; omega)] at HC
      have HC : Hid (L ++ [(⟨W.toArray⟩ : ByteArray)] = cutFrom c [] x.data.toList) := HC
      go_wp2_with (at_builtin; refine wpList_append_own _ rfl _ _ 55 rfl w.heap.size 9 i0 (.string ByteArray.empty) 1 16 Tryz.underlying55 hi hz0 hz1 hz2 rfl (by decide) _ _ _ rfl (HO.out.alloc _) ⟨wr.heap.size, 0, none⟩ 1 1 [.string ⟨W.toArray⟩] rfl rfl ?c1 ?c2 ?c3 ?c4 ?c5 ?_)
      case c1 =>
        intro j u hj
        match j, hj with
        | 0, hj => simp at hj; subst hj; simp [Addr.add]
      case c2 => intro u hu; simp at hu; subst hu; rfl
      case c3 => unfold maxLen; omega
      case c4 => omega
      case c5 => have := HB.out.size; simp; omega
      intro v' w1 hown' hgrow _
      have HR : Hid (w1.ownsRow w.heap.size 9 1 v' (L ++ [(⟨W.toArray⟩ : ByteArray)]).length ((L ++ [(⟨W.toArray⟩ : ByteArray)]).map Value.string) ∧ Below w.heap.size w w1) := row_more HO.out HB.out HB.out.size hown' hgrow
      clear hown' hgrow
      go_wp2_with fail
      go_ret
      refine ⟨?_, HR.out.2⟩
      have hrow := HR.out.1.2
      rw [← HC.out]
      rcases hrow with ⟨_, h⟩ | ⟨g, cap, cur, h, hg1, hg2, hg3, hg4, hg5, hg6⟩
      · simp at h
      · refine ⟨g, cap, by rw [h]; rfl, fun j z hz => ?_⟩
        have hjx : ((L ++ [(⟨W.toArray⟩ : ByteArray)]).map Value.string)[j]? = some (.string z) := by rw [List.getElem?_map, hz]; rfl
        rw [← hg6] at hjx
        have hcur : cur[j]? = some (.string z) := by
          rw [List.getElem?_take] at hjx
          split at hjx
          · simpa using hjx
          · cases hjx
        simp [World.cell?, hg2, hcur]
theorem cutRef_any (x : ByteArray) (hx : x.size ≤ 1000) (c : UInt8) (w : World) :
    Calls Tryz.prog 24 #[.string x, .int .u8 c.toNat] w fun e w' => (∃ g cap, e = .returned (.slice (some ⟨g, 0, none⟩) (cutFrom c [] x.data.toList).length cap) ∧
      ∀ (j : Nat) z, (cutFrom c [] x.data.toList)[j]? = some z → w'.cell? ⟨g, j, none⟩ = some (.string z)) ∧ Below w.heap.size w w' := cutRef_big x (by omega) c w
end Go.Proofs.YtpmoamfhppmicaaGreatDoor
