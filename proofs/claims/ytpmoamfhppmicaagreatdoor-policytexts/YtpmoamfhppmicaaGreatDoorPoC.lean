/-
  Package policy's admitter: the function that it makes says which ports are admitted.
-/
import Derived.Test.YtpmoamfhppmicaaGreatDoorPoM
import Derived.Test.YtpmoamfhppmicaaGreatDoorPkA
import Derived.LoopTactic
namespace Go.Proofs.YtpmoamfhppmicaaGreatDoor
open Go.RowKit

/-- rules that lie in memory, five cells each. -/
def Rul (w : World) (p : Option Addr) (l : List Rl) : Prop := ∀ (i : Nat) r, l[i]? = some r → ∃ b o, p = some ⟨b, o, none⟩ ∧ w.cell? ⟨b, o + i * 5, none⟩ = some (.bool r.al) ∧
  w.cell? ⟨b, o + i * 5 + 1, none⟩ = some (.bool r.ou) ∧ w.cell? ⟨b, o + i * 5 + 2, none⟩ = some (.int .i64 r.pr) ∧ w.cell? ⟨b, o + i * 5 + 3, none⟩ = some (.int .i64 r.lo) ∧ w.cell? ⟨b, o + i * 5 + 4, none⟩ = some (.int .i64 r.tp)

theorem admitter_any (p : Option Addr) (n cap : Nat) (pr : Int) (ou : Bool) (w : World) : Calls Tryz.prog 27 #[.slice p n cap, .int .i64 pr, .bool ou] w fun e w' =>
    e = .returned (.func (.func 41) #[] #[.pointer (some ⟨w.heap.size, 0, none⟩), .pointer (some ⟨w.heap.size + 2, 0, none⟩), .pointer (some ⟨w.heap.size + 1, 0, none⟩)]) ∧
      w' = ((w.alloc (.cells #[.slice p n cap] 22)).alloc (.cells #[.int .i64 pr] 3)).alloc (.cells #[.bool ou] 4) := by
  go_enter Tryz.func27, Tryz.ntmps27
  go_wp2
  go_ret
  exact ⟨rfl, rfl⟩

theorem Rul.keep {w w' : World} {p : Option Addr} {l : List Rl} (R : Rul w p l) (h : ∀ a v, w.cell? a = some v → w'.cell? a = some v) : Rul w' p l := fun i r hr => by
  obtain ⟨b, o, e, h0, h1, h2, h3, h4⟩ := R i r hr
  exact ⟨b, o, e, h _ _ h0, h _ _ h1, h _ _ h2, h _ _ h3, h _ _ h4⟩
theorem cell_lt {w : World} {a : Addr} {v : Value} (hc : w.cell? a = some v) : a.block < w.heap.size := by
  rcases Nat.lt_or_ge a.block w.heap.size with h | h
  · exact h
  · simp [World.cell?, Array.getElem?_eq_none h] at hc
theorem Below.keeps {w w' : World} (h : Below w.heap.size w w') {a : Addr} {v : Value} (hc : w.cell? a = some v) : w'.cell? a = some v := by
  rw [h.cell (p := a) (cell_lt hc)]; exact hc
theorem adm_drop {l : List Rl} {j : Nat} {r : Rl} (h : l[j]? = some r) (pr : Int) (ou : Bool) (p : Int) : adm (l.drop j) pr ou p = if r.has pr ou p = true then r.al else adm (l.drop (j + 1)) pr ou p := by
  obtain ⟨hj, e⟩ := List.getElem?_eq_some_iff.1 h
  rw [List.drop_eq_getElem_cons hj, e]
  rfl

set_option maxRecDepth 100000 in
set_option maxHeartbeats 2000000 in
theorem admit_any (p : Option Addr) (l : List Rl) (cap : Nat) (pr port : Int) (ou : Bool) (a b c : Nat) (w : World) (R : Rul w p l) (hl : l.length ≤ 1000)
    (c0 : w.cell? ⟨a, 0, none⟩ = some (.slice p l.length cap)) (c1 : w.cell? ⟨b, 0, none⟩ = some (.bool ou)) (c2 : w.cell? ⟨c, 0, none⟩ = some (.int .i64 pr)) :
    Calls Tryz.prog 41 #[.int .i64 port, .pointer (some ⟨a, 0, none⟩), .pointer (some ⟨b, 0, none⟩), .pointer (some ⟨c, 0, none⟩)] w fun e w' => e = .returned (.bool (adm l pr ou port)) ∧ Below w.heap.size w w' := by
  have HR : Hid (Rul w p l) := R
  have H1 : Hid (w.cell? ⟨b, 0, none⟩ = some (.bool ou)) := c1
  have H2 : Hid (w.cell? ⟨c, 0, none⟩ = some (.int .i64 pr)) := c2
  clear R c1 c2
  go_enter Tryz.func41, Tryz.ntmps41
  go_wp2_with fail
  clear c0
  go_loopw [10] (fun t wr => ∃ j : Nat, j ≤ l.length ∧ t = .int .i64 j ∧ adm (l.drop j) pr ou port = adm l pr ou port ∧ Below w.heap.size w wr) (fun t _ => l.length - (intOf t).toNat)
  case atStart => exact ⟨0, Nat.zero_le _, rfl, rfl, Below.refl _ _⟩
  case round =>
    obtain ⟨j, hj, rfl, had, hb⟩ := hrel
    have HA : Hid (adm (l.drop j) pr ou port = adm l pr ou port) := had
    have HB : Hid (Below w.heap.size w wr) := hb
    clear had hb
    by_cases hlt : j < l.length
    · have hr : l[j]? = some l[j] := List.getElem?_eq_getElem hlt
      generalize l[j] = r at hr
      obtain ⟨x, o, rfl, g0, g1, g2, g3, g4⟩ := HR.out j r hr
      have k0 := Below.keeps HB.out g0
      have k1 := Below.keeps HB.out g1
      have k2 := Below.keeps HB.out g2
      have k3 := Below.keeps HB.out g3
      have k4 := Below.keeps HB.out g4
      have k5 := Below.keeps HB.out H1.out
      have k6 := Below.keeps HB.out H2.out
      have HD : Hid (adm l pr ou port = if r.has pr ou port = true then r.al else adm (l.drop (j + 1)) pr ou port) := by rw [← HA.out]; exact adm_drop hr _ _ _
      have q5 : b < wr.heap.size := cell_lt k5
      have q6 : c < wr.heap.size := cell_lt k6
      clear g0 g1 g2 g3 g4 hr
      obtain ⟨al, ro, rp, lo, tp⟩ := r
      simp only at k0 k1 k2 k3 k4
      go_wp2_with fail
      all_goals first
        | (go_ret
           refine ⟨?_, HB.out.alloc HB.out.size _⟩
           rw [HD.out, if_pos (has_iff.2 ⟨by first | assumption | rfl, by simp only; omega, by simp only; omega, by simp only; omega⟩)]
           rfl)
        | (refine ⟨⟨j + 1, by omega, by go_num, ?_, HB.out.alloc HB.out.size _⟩, by simp [intOf]; omega⟩
           rw [HD.out, if_neg]
           rw [has_iff]
           rintro ⟨a1, a2, a3, a4⟩
           simp only at a1 a2 a3 a4
           first | omega | exact absurd a1 (by assumption))
    · obtain rfl : j = l.length := by omega
      have hf : Hid (adm l pr ou port = false) := by show _ = _; rw [← HA.out, List.drop_length]; rfl
      go_wp2_with fail
      go_ret
      refine ⟨?_, HB.out⟩
      rw [hf.out]
      rfl
end Go.Proofs.YtpmoamfhppmicaaGreatDoor
