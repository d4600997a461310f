/-
  Package policy's Check.
-/
import Derived.Test.YtpmoamfhppmicaaGreatDoorPoN
import Derived.Test.YtpmoamfhppmicaaGreatDoorPoA
import Derived.Test.YtpmoamfhppmicaaGreatDoorPoC
namespace Go.Proofs.YtpmoamfhppmicaaGreatDoor
open Go.RowKit

/-- the place of the first that is none. -/
def chkAt : List Rl → Nat → Option Nat
  | [], _ => none
  | r :: l, k => if r.ok then chkAt l (k + 1) else some k
theorem chkAt_drop {l : List Rl} {j : Nat} {r : Rl} (h : l[j]? = some r) : chkAt (l.drop j) j = if r.ok then chkAt (l.drop (j + 1)) (j + 1) else some j := by
  obtain ⟨hj, e⟩ := List.getElem?_eq_some_iff.1 h
  rw [List.drop_eq_getElem_cons hj, e]
  rfl
theorem chkAt_none : ∀ {l : List Rl} {k : Nat}, chkAt l k = none ↔ ∀ r ∈ l, r.ok
  | [], k => by simp [chkAt]
  | r :: l, k => by
    unfold chkAt
    by_cases h : r.ok
    · rw [if_pos h, chkAt_none]; simp [h]
    · rw [if_neg h]; simp [h]
/-- what Check answers. -/
def ChkV (s : Nat → Addr) (w : World) (l : List Rl) (v : Value) : Prop :=
  (20 < l.length ∧ v = errV s 2) ∨ (l.length ≤ 20 ∧ chkAt l 0 = none ∧ v = .nilIface) ∨
    (l.length ≤ 20 ∧ ∃ i g : Nat, chkAt l 0 = some i ∧ v = .iface 60 (.pointer (some ⟨g, 0, none⟩)) ∧ w.cell? ⟨g, 0, none⟩ = some (.int .i64 i) ∧ w.cell? ⟨g, 1, none⟩ = some (.iface 161 (.pointer (some (s 1)))))

set_option maxRecDepth 100000 in
set_option maxHeartbeats 2000000 in
theorem pcheck_big (p : Option Addr) (l : List Rl) (cap : Nat) (s : Nat → Addr) (w : World) (S : Sen w s) (R : Rul w p l) (hl : l.length ≤ 4000) :
    Calls Tryz.prog 15 #[.slice p l.length cap] w fun e w' => (∃ v, e = .returned v ∧ ChkV s w' l v) ∧ Below w.heap.size w w' := by
  have HR : Hid (Rul w p l) := R
  have HS : Hid (Sen w s) := S
  clear R S
  by_cases hbig : 20 < l.length
  · have d1 := HS.out.c1
    go_enter Tryz.func15, Tryz.ntmps15
    go_wp2_with fail
    go_ret
    exact ⟨⟨_, rfl, .inl ⟨hbig, rfl⟩⟩, Below.refl _ _⟩
  · have hsm : l.length ≤ 20 := by omega
    go_enter Tryz.func15, Tryz.ntmps15
    go_wp2_with fail
    go_loopw [11] (fun t wr => ∃ j : Nat, j ≤ l.length ∧ t = .int .i64 j ∧ chkAt (l.drop j) j = chkAt l 0 ∧ Below w.heap.size w wr) (fun t _ => l.length - (intOf t).toNat)
    case atStart => exact ⟨0, Nat.zero_le _, rfl, rfl, Below.refl _ _⟩
    case round =>
      obtain ⟨j, hj, rfl, had, hb⟩ := hrel
      have HA : Hid (chkAt (l.drop j) j = chkAt l 0) := had
      have HB : Hid (Below w.heap.size w wr) := hb
      clear had hb
      by_cases hlt : j < l.length
      · have hr : l[j]? = some l[j] := List.getElem?_eq_getElem hlt
        generalize l[j] = r at hr
        obtain ⟨x, o, rfl, g0, g1, g2, g3, g4⟩ := HR.out j r hr
        have k0 := Below.keeps HB.out g0
        have k1 := Below.keeps HB.out g1
        have k2 := Below.keeps HB.out g2
        have k3 := Below.keeps HB.out g3
        have k4 := Below.keeps HB.out g4
        have HD : Hid (chkAt l 0 = if r.ok then chkAt (l.drop (j + 1)) (j + 1) else some j) := by show _ = _; rw [← HA.out]; exact chkAt_drop hr
        clear g0 g1 g2 g3 g4 hr
        obtain ⟨al, ro, rp, lo, tp⟩ := r
        simp only at k0 k1 k2 k3 k4
        have B1 : Hid (Below w.heap.size w (wr.alloc (.cells #[.bool al, .bool ro, .int .i64 rp, .int .i64 lo, .int .i64 tp] 42))) := HB.out.alloc HB.out.size _
        go_wp2_with fail
        refine (isRule_any al ro rp lo tp _ _ rfl).mono ?_
        rintro e w2 ⟨rfl, hb2⟩
        have B2 : Hid (Below w.heap.size w w2) := B1.out.trans (hb2.mono (by have := HB.out.size; simp; omega))
        have S2 : Hid (Sen w2 s) := HS.out.below B2.out
        clear hb2
        by_cases hok : Rl.ok ⟨al, ro, rp, lo, tp⟩
        · rw [decide_eq_true hok]
          have HD : Hid (chkAt l 0 = chkAt (l.drop (j + 1)) (j + 1)) := by have := HD.out; rw [if_pos hok] at this; exact this
          clear hok
          go_wp2_with fail
          go_roundw
          case rel => exact ⟨j + 1, by omega, by go_num, HD.out.symm, B2.out⟩
          case measure => simp [intOf]; omega
        · rw [decide_eq_false hok]
          have HD : Hid (chkAt l 0 = some j) := by have := HD.out; rw [if_neg hok] at this; exact this
          clear hok
          have d1 := S2.out.c1
          go_wp2_with fail
          go_ret
          refine ⟨⟨_, rfl, .inr (.inr ⟨hsm, j, w2.heap.size, HD.out, rfl, ?_, ?_⟩)⟩, B2.out.alloc B2.out.size _⟩
          · simp
          · simp
      · obtain rfl : j = l.length := by omega
        have hf : Hid (chkAt l 0 = none) := by show _ = _; rw [← HA.out, List.drop_length]; rfl
        go_wp2_with fail
        go_ret
        exact ⟨⟨_, rfl, .inr (.inl ⟨hsm, hf.out, rfl⟩)⟩, HB.out⟩
theorem pcheck_any (p : Option Addr) (l : List Rl) (cap : Nat) (s : Nat → Addr) (w : World) (S : Sen w s) (R : Rul w p l) (hl : l.length ≤ 1000) :
    Calls Tryz.prog 15 #[.slice p l.length cap] w fun e w' => (∃ v, e = .returned v ∧ ChkV s w' l v) ∧ Below w.heap.size w w' :=
  pcheck_big p l cap s w S R (by omega)
end Go.Proofs.YtpmoamfhppmicaaGreatDoor
