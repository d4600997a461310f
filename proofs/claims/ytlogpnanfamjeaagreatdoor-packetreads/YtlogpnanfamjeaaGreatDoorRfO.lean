/-
  The document's answer: numbers.
-/
import Derived.Test.YtlogpnanfamjeaaGreatDoorRfK
import Derived.Test.YtlogpnanfamjeaaGreatDoorPkD
namespace Go.Proofs.YtlogpnanfamjeaaGreatDoor
open Go.RowKit

/-- where the numbers of a packet's bytes end. -/
def eL (k : Nat) : Nat := [0, 1, 5, 7, 11, 13, 14].getD k 14
theorem eL_step (k : Nat) (h : k < 6) : eL k ≤ eL (k + 1) ∧ eL (k + 1) ≤ eL k + 4 ∧ eL (k + 1) ≤ 14 := by
  match k, h with
  | 0, _ | 1, _ | 2, _ | 3, _ | 4, _ | 5, _ => decide
def numsTo (x : ByteArray) : Nat → List Nat
  | 0 => []
  | k + 1 => numsTo x k ++ [numB x.data.toList (eL k) (eL (k + 1) - eL k)]
theorem numsTo_len (x : ByteArray) : ∀ k, (numsTo x k).length = k
  | 0 => rfl
  | k + 1 => by simp [numsTo, numsTo_len x k]
abbrev intV (n : Nat) : Value := .int .i64 (n : Int)
theorem Tryz.infoI : (Tryz.prog.info? 3).map (fun i => (i.zero, i.size, i.bytes)) = some (some (.int .i64 0), 1, 8) := by kernel_rfl
theorem below_keep {w w' : World} (h : Below w.heap.size w w') {a : Addr} {v : Value} (hc : w.cell? a = some v) : w'.cell? a = some v := by
  have hlt : a.block < w.heap.size := by
    rcases Nat.lt_or_ge a.block w.heap.size with h' | h'
    · exact h'
    · simp [World.cell?, Array.getElem?_eq_none h'] at hc
  rw [h.cell hlt]; exact hc
theorem rowI_more {b0 : Nat} {w0 wr w1 : World} {v v' y : Value} {L : List Nat} {z : Nat} (hown : wr.ownsRow b0 3 1 v L.length (L.map intV)) (hb : Below b0 w0 wr) (hs : b0 ≤ wr.heap.size)
    (o' : w1.ownsRow b0 3 1 v' (L.length + 1) (L.map intV ++ [intV z])) (hg : (wr.alloc (.cells #[y] 3)).grownBy w1 v.ownBlock) :
    w1.ownsRow b0 3 1 v' (L ++ [z]).length ((L ++ [z]).map intV) ∧ Below b0 w0 w1 := by
  refine ⟨?_, (hb.alloc hs _).grown hg (by simp; omega) (fun j hj => (hown.lt _ hj).1)⟩
  simpa using o'

set_option maxRecDepth 100000 in
set_option maxHeartbeats 4000000 in
theorem numbers_any (x : ByteArray) (hx : x.size = 14) (g : Nat) (w : World) (hg : ∀ j, j < 6 → w.cell? ⟨g, j, none⟩ = some (intV (eL (j + 1)))) :
    Calls Tryz.prog 30 #[.string x, .slice (some ⟨g, 0, none⟩) 6 6] w fun e w' => (∃ b cap, e = .returned (.slice (some ⟨b, 0, none⟩) 6 cap) ∧
      ∀ (j : Nat) z, (numsTo x 6)[j]? = some z → w'.cell? ⟨b, j, none⟩ = some (intV z)) ∧ Below w.heap.size w w' := by
  obtain ⟨i0, hi, hz0, hz1, hz2⟩ := info_parts Tryz.infoI
  have HG : Hid (∀ j, j < 6 → w.cell? ⟨g, j, none⟩ = some (intV (eL (j + 1)))) := hg
  clear hg
  go_enter Tryz.func30, Tryz.ntmps30
  go_wp2_with fail
  go_loopw [5, 6, 7] (fun v a t wr => ∃ k : Nat, k ≤ 6 ∧ t = .int .i64 k ∧ a = intV (eL k) ∧ wr.ownsRow w.heap.size 3 1 v (numsTo x k).length ((numsTo x k).map intV) ∧ Below w.heap.size w wr) (fun _ _ t _ => 6 - (intOf t).toNat)
  case atStart => exact ⟨0, by omega, rfl, rfl, World.ownsRow_nil _ _ _ _, Below.refl _ _⟩
  case round =>
    obtain ⟨k, hk, rfl, rfl, hown, hb⟩ := hrel
    have HO : Hid (wr.ownsRow w.heap.size 3 1 u5 (numsTo x k).length ((numsTo x k).map intV)) := hown
    have HB : Hid (Below w.heap.size w wr) := hb
    clear hown hb
    by_cases hlt : k < 6
    · have hs := eL_step k hlt
      have hc := below_keep HB.out (HG.out k hlt)
      have HN : Hid (numsTo x (k + 1) = numsTo x k ++ [numB x.data.toList (eL k) (eL (k + 1) - eL k)]) := rfl
      generalize hHL : eL (k + 1) = hi' at *
      have HL : Hid (eL (k + 1) = hi') := hHL
      clear hHL
      generalize eL k = lo at *
      go_wp2_with fail
      rw [show decide ((k : Int) < 6) = true from decide_eq_true (by omega)]
      go_loopw [6, 8] (fun a n ws => ∃ m : Nat, m ≤ hi' - lo ∧ a = .int .i64 ((lo + m : Nat) : Int) ∧ n = .int .i64 (numB x.data.toList lo m) ∧ ws = wr) (fun a _ _ => hi' - (intOf a).toNat)
      case atStart => exact ⟨0, by omega, rfl, rfl, rfl⟩
      case round =>
        obtain ⟨m, hm, rfl, rfl, rfl⟩ := hrel
        have hl := numB_lt x.data.toList lo m
        by_cases hlt2 : m < hi' - lo
        · have hl2 : numB x.data.toList lo m < 4294967296 := by
            have : 256 ^ m ≤ 256 ^ 3 := Nat.pow_le_pow_right (by decide) (by omega)
            have e : (256 : Nat) ^ 3 = 16777216 := by decide
            omega
          clear hl
          have hnb : Hid (numB x.data.toList lo (m + 1) = 256 * numB x.data.toList lo m + x[lo + m].toNat) := by
            show 256 * numB x.data.toList lo m + (x.data.toList.getD (lo + m) 0).toNat = _
            rw [getD_byte x (lo + m) (by omega)]
          have hb8 := x[lo + m].toNat_lt
          generalize numB x.data.toList lo m = nn at *
          go_wp2_with fail
          refine ⟨⟨m + 1, by omega, ?na, ?nb, trivial⟩, ?nc⟩
          case na => exact congrArg (Value.int .i64) (by omega)
          case nb => rw [hnb.out]; exact congrArg (Value.int .i64) (by omega)
          case nc => simp [intOf]; omega
        · obtain rfl : m = hi' - lo := by omega
          generalize hNV : numB x.data.toList lo (hi' - lo) = nv at *
          have HV : Hid (numsTo x (k + 1) = numsTo x k ++ [nv]) := HN.out
          clear hl hNV HN
          have hl := numsTo_len x k
          have HLn : Hid ((numsTo x k).length = k) := hl
          go_wp2_with (at_builtin; refine wpList_append_own _ rfl _ _ 60 rfl w.heap.size 3 i0 (.int .i64 0) 1 8 Tryz.underlying60 hi hz0 hz1 hz2 rfl (by decide) _ _ _ rfl (HO.out.alloc _) ⟨wr.heap.size, 0, none⟩ 1 1 [intV nv] rfl rfl ?c1 ?c2 ?c3 ?c4 ?c5 ?_)
          case c1 =>
            intro j u hj
            match j, hj with
            | 0, hj => simp at hj; subst hj; simp [Addr.add]
          case c2 => intro u hu; simp at hu; subst hu; rfl
          case c3 => unfold maxLen; omega
          case c4 => omega
          case c5 => have := HB.out.size; simp; omega
          intro v' w1 hown' hgrow _
          have hown' : w1.ownsRow w.heap.size 3 1 v' ((numsTo x k).length + 1) ((numsTo x k).map intV ++ [intV nv]) := by rw [HLn.out]; exact hown'
          have HR : Hid (w1.ownsRow w.heap.size 3 1 v' (numsTo x k ++ [nv]).length ((numsTo x k ++ [nv]).map intV) ∧ Below w.heap.size w w1) := rowI_more HO.out HB.out HB.out.size hown' hgrow
          clear hown' hgrow
          go_wp2_with fail
          go_roundw
          case rel => exact ⟨k + 1, by omega, by go_num, by rw [HL.out], by rw [HV.out]; exact HR.out.1, HR.out.2⟩
          case measure => simp [intOf]; omega
    · obtain rfl : k = 6 := by omega
      go_wp2_with fail
      go_ret
      refine ⟨?_, HB.out⟩
      have hrow := HO.out.2
      have hl := numsTo_len x 6
      rcases hrow with ⟨_, h⟩ | ⟨g, cap, cur, h, hg1, hg2, hg3, hg4, hg5, hg6⟩
      · omega
      · refine ⟨g, cap, by rw [h, hl]; rfl, fun j z hz => ?_⟩
        have hjx : ((numsTo x 6).map intV)[j]? = some (intV z) := by rw [List.getElem?_map, hz]; rfl
        rw [← hg6] at hjx
        have hcur : cur[j]? = some (intV z) := by
          rw [List.getElem?_take] at hjx
          split at hjx
          · simpa using hjx
          · cases hjx
        simp [World.cell?, hg2, hcur]
end Go.Proofs.YtlogpnanfamjeaaGreatDoor
