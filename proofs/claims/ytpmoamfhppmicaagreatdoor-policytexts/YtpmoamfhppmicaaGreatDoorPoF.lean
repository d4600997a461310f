/-
  Package policy's Text.
-/
import Derived.Test.YtpmoamfhppmicaaGreatDoorPoD
import Derived.Test.YtpmoamfhppmicaaGreatDoorPoE
namespace Go.Proofs.YtpmoamfhppmicaaGreatDoor
open Go.RowKit

def rlLine (r : Rl) : List UInt8 := lineL (if r.al = true then 1 else 0) (if r.ou = true then 1 else 0) r.pr.toNat r.lo r.tp
/-- the text of rules. -/
def textL (l : List Rl) : List UInt8 := l.flatMap fun r => rlLine r ++ [10]
theorem rlLine_len {r : Rl} (h : r.ok) : (rlLine r).length ≤ 40 := by
  obtain ⟨_, h1, h2, h3⟩ := h
  have r1 := itoa_len (show 0 ≤ r.lo by omega) (by omega)
  have r2 := itoa_len (show 0 ≤ r.tp by omega) (by omega)
  have g0 := nmW_len 0 (if r.al = true then 1 else 0)
  have g1 := nmW_len 1 (if r.ou = true then 1 else 0)
  have g2 := nmW_len 2 r.pr.toNat
  unfold rlLine lineL
  simp only [List.length_append, List.length_cons]
  omega
theorem textL_len : ∀ {l : List Rl}, (∀ r ∈ l, r.ok) → (textL l).length ≤ 41 * l.length
  | [], _ => by simp [textL]
  | r :: l, h => by
    have h1 := rlLine_len (h r (by simp))
    have h2 := textL_len (l := l) (fun x hx => h x (by simp [hx]))
    have e : textL (r :: l) = (rlLine r ++ [10]) ++ textL l := by simp [textL]
    rw [e]
    simp only [List.length_append, List.length_cons, List.length_nil]
    omega
theorem textL_take {l : List Rl} {j : Nat} {r : Rl} (h : l[j]? = some r) : textL (l.take (j + 1)) = textL (l.take j) ++ (rlLine r ++ [10]) := by
  unfold textL
  rw [List.take_add_one, h, List.flatMap_append]
  simp
theorem rlLine_any (r : Rl) (h : r.ok) (w : World) (T : Pow w) (N : PNm w) :
    Calls Tryz.prog 16 #[.agg #[.bool r.al, .bool r.ou, .int .i64 r.pr, .int .i64 r.lo, .int .i64 r.tp]] w fun e w' => e = .returned (.string ⟨(rlLine r).toArray⟩) ∧ Below w.heap.size w w' := by
  obtain ⟨h0, h1, h2, h3⟩ := h
  have e : r.pr = (r.pr.toNat : Int) := by omega
  rw [e]
  refine line_at r.al r.ou _ _ _ ?_ ?_ ?_ ?_ ?_ r.lo r.tp (by omega) (by omega) (by omega) (by omega) w T N
  · cases r.al <;> rfl
  · cases r.ou <;> rfl
  · cases r.al <;> decide
  · cases r.ou <;> decide
  · omega

set_option maxRecDepth 100000 in
set_option maxHeartbeats 2000000 in
theorem ptext_ok (p : Option Addr) (l : List Rl) (cap : Nat) (s : Nat → Addr) (w : World) (S : Sen w s) (T : Pow w) (N : PNm w) (R : Rul w p l) (h : RulesOk l) :
    Calls Tryz.prog 6 #[.slice p l.length cap] w fun e w' => e = .returned (.tuple #[.string ⟨(textL l).toArray⟩, .nilIface]) ∧ Below w.heap.size w w' := by
  have HR : Hid (Rul w p l) := R
  have HS : Hid (Sen w s) := S
  have HT : Hid (Pow w) := T
  have HN : Hid (PNm w) := N
  have HK : Hid (RulesOk l) := h
  have hl : l.length ≤ 20 := h.1
  clear R S T N h
  go_enter Tryz.func6, Tryz.ntmps6
  go_wp2_with fail
  refine (pcheck_any p l cap s _ HS.out HR.out (by omega)).mono ?_
  rintro e w1 ⟨⟨v, rfl, hv⟩, hb1⟩
  have B1 : Hid (Below w.heap.size w w1) := hb1
  clear hb1
  obtain rfl : v = .nilIface := by
    rcases hv with ⟨h1, _⟩ | ⟨_, _, h1⟩ | ⟨_, i, g, h1, _⟩
    · omega
    · exact h1
    · rw [HK.out.2] at h1; cases h1
  clear hv
  go_wp2_with fail
  go_loopw [5, 15] (fun v t wr => ∃ j : Nat, j ≤ l.length ∧ t = .int .i64 j ∧ v = .string ⟨(textL (l.take j)).toArray⟩ ∧ Below w.heap.size w wr) (fun _ t _ => l.length - (intOf t).toNat)
  case atStart => exact ⟨0, Nat.zero_le _, rfl, rfl, B1.out⟩
  case round =>
    obtain ⟨j, hj, rfl, rfl, hb⟩ := hrel
    have HB : Hid (Below w.heap.size w wr) := hb
    clear hb
    by_cases hlt : j < l.length
    · have hr : l[j]? = some l[j] := List.getElem?_eq_getElem hlt
      have hok : l[j].ok := chkAt_none.1 HK.out.2 _ (List.getElem_mem hlt)
      generalize l[j] = r at hr hok
      obtain ⟨x, o, rfl, g0, g1, g2, g3, g4⟩ := HR.out j r hr
      have k0 := Below.keeps HB.out g0
      have k1 := Below.keeps HB.out g1
      have k2 := Below.keeps HB.out g2
      have k3 := Below.keeps HB.out g3
      have k4 := Below.keeps HB.out g4
      have HD : Hid (textL (l.take (j + 1)) = textL (l.take j) ++ (rlLine r ++ [10])) := textL_take hr
      have hn : (textL (l.take j)).length ≤ 820 := by
        have h1 := textL_len (l := l.take j) (fun y hy => chkAt_none.1 HK.out.2 _ (List.mem_of_mem_take hy))
        have h2 : (l.take j).length ≤ 20 := by rw [List.length_take]; omega
        omega
      have hm := rlLine_len hok
      have HO : Hid r.ok := hok
      obtain ⟨T0, hT0⟩ : ∃ T, textL (l.take j) = T := ⟨_, rfl⟩
      obtain ⟨L0, hL0⟩ : ∃ L, rlLine r = L := ⟨_, rfl⟩
      rw [hT0] at hn HD ⊢
      rw [hL0] at hm HD
      have HL : Hid (rlLine r = L0) := hL0
      clear g0 g1 g2 g3 g4 hr hok hT0 hL0
      have B2 : Hid (Below w.heap.size w (wr.alloc (.cells #[.bool r.al, .bool r.ou, .int .i64 r.pr, .int .i64 r.lo, .int .i64 r.tp] 42))) := HB.out.alloc HB.out.size _
      go_wp2_with fail
      refine (rlLine_any r HO.out _ (HT.out.below B2.out) (HN.out.below B2.out)).mono ?_
      rintro e w3 ⟨rfl, hb3⟩
      have B3 : Hid (Below w.heap.size w w3) := B2.out.trans (hb3.mono B2.out.size)
      rw [HL.out]
      clear hb3
      go_wp2_with fail
      go_roundw
      case rel => exact ⟨j + 1, by omega, by go_num, congrArg Value.string (by rw [HD.out]; apply ByteArray.ext; simp [ByteArray.data_append]), B3.out⟩
      case measure => simp [intOf]; omega
    · obtain rfl : j = l.length := by omega
      rw [List.take_length]
      go_wp2_with fail
      go_ret2
      exact ⟨rfl, HB.out⟩
end Go.Proofs.YtpmoamfhppmicaaGreatDoor
