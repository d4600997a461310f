/-
  Package packet's parseFlags.
-/
import Derived.Test.YtlogpnanfamjeaaGreatDoorPkR
import Derived.Test.YtlogpnanfamjeaaGreatDoorPkF
namespace Go.Proofs.YtlogpnanfamjeaaGreatDoor
open Go.RowKit

/-- the flags of a row of names; none: one of them is no flag's. -/
def orAll : List ByteArray → Int → Option Int
  | [], acc => some acc
  | x :: r, acc => if fbit x = 0 then none else orAll r (bits BinOp.or IntKind.i64 acc (fbit x))
def pf (x : ByteArray) : Option Int := if x = ⟨#[45]⟩ then some 0 else orAll (words x 43) 0
theorem orAll_append (l r : List ByteArray) : ∀ acc, orAll (l ++ r) acc = (orAll l acc).bind (orAll r) := by
  induction l with
  | nil => intro acc; rfl
  | cons x l ih =>
    intro acc
    simp only [List.cons_append, orAll]
    split
    · rfl
    · exact ih _

/-- one cell of a block has turned. -/
structure Wr (w w' : World) (b o : Nat) (r : Int) : Prop where
  c : w'.cell? ⟨b, o, none⟩ = some (.int .i64 r)
  f : w'.frozen? ⟨b, o, none⟩ = false
  k : ∀ a : Addr, a.block < w.heap.size → a ≠ ⟨b, o, none⟩ → w'.cell? a = w.cell? a
  z : ∀ a : Addr, a.block < w.heap.size → w'.frozen? a = w.frozen? a
  g : w.grownBy w' (some b)
theorem Wr.set {w w' : World} {b o : Nat} {r : Int} (h : Wr w w' b o r) (q : Int) : Wr w (w'.setCell ⟨b, o, none⟩ (.int .i64 q)) b o q where
  c := World.cell?_setCell_same _ _ _ h.c
  f := by rw [World.frozen?_setCell]; exact h.f
  k := fun a ha hn => by rw [World.cell?_setCell_other _ _ _ _ (Ne.symm hn)]; exact h.k a ha hn
  z := fun a ha => by rw [World.frozen?_setCell]; exact h.z a ha
  g := ⟨h.g.os, h.g.tape, h.g.output, by rw [World.size_setCell]; exact h.g.size, fun k hk hn => by rw [Below.heap_setCell _ _ _ _ (fun e => hn (by rw [e]))]; exact h.g.block k hk hn⟩
theorem Wr.from {w w1 w2 : World} {b o : Nat} {r : Int} (hb : Below w.heap.size w w1) (h : Wr w1 w2 b o r) : Wr w w2 b o r where
  c := h.c
  f := h.f
  k := fun a ha hn => (h.k a (Nat.lt_of_lt_of_le ha hb.size) hn).trans (hb.cell ha)
  z := fun a ha => (h.z a (Nat.lt_of_lt_of_le ha hb.size)).trans (hb.frozen ha)
  g := ⟨h.g.os.trans hb.os, h.g.tape.trans hb.tape, h.g.output.trans hb.output, Nat.le_trans hb.size h.g.size, fun k hk hn => (h.g.block k (Nat.lt_of_lt_of_le hk hb.size) hn).trans (hb.block k hk)⟩

theorem words_le (x : ByteArray) (c : UInt8) : (words x c).length ≤ x.size + 1 := by
  rw [words_len]; have := Lib.countB_le ⟨#[c]⟩ (by simp [ByteArray.size]) x.size x (Nat.le_refl _); omega
theorem take_cons (l : List ByteArray) (j : Nat) (h : j < l.length) : l = l.take j ++ l[j] :: l.drop (j + 1) := by
  rw [List.getElem_cons_drop, List.take_append_drop]
theorem orAll_hit (l : List ByteArray) (j : Nat) (h : j < l.length) (acc : Int) (ha : orAll (l.take j) 0 = some acc) (hf : fbit l[j] ≠ 0) : orAll (l.take (j + 1)) 0 = some (bits BinOp.or IntKind.i64 acc (fbit l[j])) := by
  rw [List.take_succ_eq_append_getElem h, orAll_append, ha]
  simp [orAll, hf]
theorem orAll_bad (l : List ByteArray) (j : Nat) (h : j < l.length) (acc : Int) (ha : orAll (l.take j) 0 = some acc) (hf : fbit l[j] = 0) : orAll l 0 = none := by
  rw [take_cons l j h, orAll_append, ha]
  simp [orAll, hf]
theorem Nms.wr {w w' : World} {b o : Nat} {r : Int} (T : Nms w) (h : Wr w w' b o r) (hne : 3 ≠ b) : Nms w' := by
  have hl := block_lt T.1
  have k : ∀ (j : Nat) v, w.cell? ⟨3, j, none⟩ = some v → w'.cell? ⟨3, j, none⟩ = some v := fun j v hv =>
    (h.k ⟨3, j, none⟩ hl (fun e => hne (congrArg Addr.block e))).trans hv
  exact ⟨k _ _ T.1, k _ _ T.2.1, k _ _ T.2.2.1, k _ _ T.2.2.2⟩

set_option maxHeartbeats 1000000 in
theorem parseFlags_dash (b o : Nat) (w : World) :
    Calls Tryz.prog 41 #[.string ⟨#[45]⟩, .pointer (some ⟨b, o, none⟩)] w fun e w' => e = .returned (.bool true) ∧ w' = w := by
  go_enter Tryz.func41, Tryz.ntmps41
  go_wp2_with fail
  go_ret
  exact ⟨rfl, rfl⟩

set_option maxRecDepth 100000 in
set_option maxHeartbeats 2000000 in
theorem parseFlags_any (x : ByteArray) (hx : x.size ≤ 1000) (hd : ¬ x = ⟨#[45]⟩) (b o : Nat) (w : World) (L : Libs w) (T : Nms w) (h0 : w.cell? ⟨b, o, none⟩ = some (.int .i64 0)) (f0 : w.frozen? ⟨b, o, none⟩ = false) (hne : 3 ≠ b) :
    Calls Tryz.prog 41 #[.string x, .pointer (some ⟨b, o, none⟩)] w fun e w' =>
      (∃ r, orAll (words x 43) 0 = some r ∧ e = .returned (.bool true) ∧ Wr w w' b o r) ∨ (orAll (words x 43) 0 = none ∧ e = .returned (.bool false) ∧ w.grownBy w' (some b)) := by
  have HL : Hid (Libs w) := L
  have HT : Hid (Nms w) := T
  have G0 : Hid (w.cell? ⟨b, o, none⟩ = some (.int .i64 0)) := h0
  have F0 : Hid (w.frozen? ⟨b, o, none⟩ = false) := f0
  have hd1 : (x.toList == [45]) = false := by
    have := ba_ne (a := x) (b := ⟨#[45]⟩) (fun e => hd e.symm)
    simpa using this
  clear L T h0 f0
  go_enter Tryz.func41, Tryz.ntmps41
  go_wp2_with fail
  refine (split_any x hx 43 _ HL.out).mono ?_
  rintro e w2 ⟨rfl, hc, hb⟩
  have HC : Hid (∀ (j : Nat) y, (words x 43)[j]? = some y → w2.cell? ⟨w.heap.size, j, none⟩ = some (.string y)) := hc
  have HB : Hid (Below w.heap.size w w2) := hb
  have hn : (words x 43).length ≤ 2000 := by have := words_le x 43; omega
  have hbl : b < w.heap.size := block_lt G0.out
  have W0 : Hid (Wr w2 w2 b o 0) := ⟨below_keeps HB.out G0.out, by rw [below_frozen HB.out G0.out]; exact F0.out, fun _ _ _ => rfl, fun _ _ => rfl, ⟨rfl, rfl, rfl, Nat.le_refl _, fun _ _ _ => rfl⟩⟩
  clear hc hb
  go_wp2_with fail
  go_loopw [13] (fun t wr => ∃ (j : Nat) (acc : Int), j ≤ (words x 43).length ∧ t = .int .i64 j ∧ orAll ((words x 43).take j) 0 = some acc ∧ Wr w2 wr b o acc) (fun t _ => (words x 43).length - (intOf t).toNat)
  case atStart => exact ⟨0, 0, Nat.zero_le _, rfl, rfl, W0.out⟩
  case round =>
    obtain ⟨j, acc, hj, rfl, hacc, hW⟩ := hrel
    have HA : Hid (orAll ((words x 43).take j) 0 = some acc) := hacc
    have HW : Hid (Wr w2 wr b o acc) := hW
    clear hacc hW
    by_cases hlt : j < (words x 43).length
    · have hcell : wr.cell? ⟨w.heap.size, j, none⟩ = some (.string (words x 43)[j]) := by
        have h1 := HC.out j _ (List.getElem?_eq_getElem hlt)
        rw [HW.out.k ⟨w.heap.size, j, none⟩ (block_lt h1) (fun e => by have := congrArg Addr.block e; simp at this; omega)]
        exact h1
      have hfl := HW.out.c
      have hff := HW.out.f
      go_wp2_with fail
      refine (flagBit_any _ _ ((HT.out.below HB.out).wr HW.out hne)).mono ?_
      rintro e w3 ⟨rfl, hw3⟩
      subst hw3
      by_cases hz : fbit (words x 43)[j] = 0
      · have HZ : Hid (fbit (words x 43)[j] = 0) := hz
        have hz1 : (fbit (words x 43)[j] == 0) = true := beq_iff_eq.2 hz
        clear hz
        go_wp2_with fail
        go_ret
        exact .inr ⟨orAll_bad _ j hlt acc HA.out HZ.out, rfl, (HW.out.from HB.out).g⟩
      · have HZ : Hid (fbit (words x 43)[j] ≠ 0) := hz
        have hz1 : (fbit (words x 43)[j] == 0) = false := beq_eq_false_iff_ne.2 hz
        clear hz
        go_wp2_with fail
        go_roundw
        case rel => exact ⟨j + 1, _, by omega, by go_num, orAll_hit _ j hlt acc HA.out HZ.out, HW.out.set _⟩
        case measure => simp [intOf]; omega
    · have hje : j = (words x 43).length := by omega
      have hall : orAll (words x 43) 0 = some acc := by
        have := HA.out
        rw [List.take_of_length_le (by omega)] at this
        exact this
      have HALL : Hid (orAll (words x 43) 0 = some acc) := hall
      clear hall hje
      go_wp2_with fail
      go_ret
      exact .inl ⟨acc, HALL.out, rfl, HW.out.from HB.out⟩
end Go.Proofs.YtlogpnanfamjeaaGreatDoor
