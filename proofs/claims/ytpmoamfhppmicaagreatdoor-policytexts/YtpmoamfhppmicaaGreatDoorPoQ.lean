/-
  A packet's error, as a number; packet.Check.
-/
import Derived.Test.YtpmoamfhppmicaaGreatDoorPoN
namespace Go.Proofs.YtpmoamfhppmicaaGreatDoor
open Go.RowKit

def endB (a p : Int) : Bool := decide (0 ≤ a) && decide (a ≤ 1048576) && decide (1 ≤ p) && decide (p ≤ 65535)
theorem endB_ok {a p : Int} : endB a p = true ↔ okEnd a p := by unfold endB okEnd; simp; omega
theorem endB_bad {a p : Int} : endB a p = false ↔ badEnd a p := by
  rw [← Bool.not_eq_true, endB_ok]; unfold okEnd badEnd; omega
/-- a packet's error, as a number. -/
def pkErr (pr a1 p1 a2 p2 fl : Int) : Nat :=
  if (pr = 1 ∨ pr = 2) ∧ endB a1 p1 = true ∧ endB a2 p2 = true ∧ 0 ≤ fl ∧ fl ≤ 15 then (if pr = 1 ∧ 0 < fl then 3 else 0) else 2

theorem check_any (pr a1 p1 a2 p2 fl : Int) (s : Nat → Addr) (w : World) (S : Sen w s) :
    Calls Tryz.prog 26 #[pkt pr a1 p1 a2 p2 fl] w fun e w' => e = .returned (errV s (pkErr pr a1 p1 a2 p2 fl)) ∧ Below w.heap.size w w' := by
  by_cases h0 : pr = 1 ∨ pr = 2
  · cases h1 : endB a1 p1
    · have e : pkErr pr a1 p1 a2 p2 fl = 2 := by unfold pkErr; simp [h1]
      rw [e]; exact check_src pr a1 p1 a2 p2 fl s w S h0 (endB_bad.1 h1)
    · cases h2 : endB a2 p2
      · have e : pkErr pr a1 p1 a2 p2 fl = 2 := by unfold pkErr; simp [h2]
        rw [e]; exact check_dst pr a1 p1 a2 p2 fl s w S h0 (endB_ok.1 h1) (endB_bad.1 h2)
      · by_cases h3 : fl < 0 ∨ 15 < fl
        · have e : pkErr pr a1 p1 a2 p2 fl = 2 := by unfold pkErr; rw [if_neg (by omega)]
          rw [e]; exact check_flags pr a1 p1 a2 p2 fl s w S h0 (endB_ok.1 h1) (endB_ok.1 h2) h3
        · by_cases h4 : pr = 1 ∧ 0 < fl
          · have e : pkErr pr a1 p1 a2 p2 fl = 3 := by unfold pkErr; rw [if_pos ⟨h0, h1, h2, by omega, by omega⟩, if_pos h4]
            rw [e]; exact check_shape pr a1 p1 a2 p2 fl s w S h4.1 (endB_ok.1 h1) (endB_ok.1 h2) h4.2 (by omega)
          · have e : pkErr pr a1 p1 a2 p2 fl = 0 := by unfold pkErr; rw [if_pos ⟨h0, h1, h2, by omega, by omega⟩, if_neg h4]
            rw [e]; exact check_ok pr a1 p1 a2 p2 fl s w S (by omega) (endB_ok.1 h1) (endB_ok.1 h2) (by omega) (by omega)
  · have e : pkErr pr a1 p1 a2 p2 fl = 2 := by unfold pkErr; rw [if_neg (fun h => h0 h.1)]
    rw [e]; exact check_proto pr a1 p1 a2 p2 fl s w S (by rw [bne_iff_ne]; omega) (by rw [bne_iff_ne]; omega)
/-- a packet without an error. -/
structure PkOk (pr a1 p1 a2 p2 fl : Int) : Prop where
  proto : (pr = 1 ∧ fl = 0) ∨ pr = 2
  src : okEnd a1 p1
  dst : okEnd a2 p2
  lo : 0 ≤ fl
  hi : fl ≤ 15
theorem pkErr_zero {pr a1 p1 a2 p2 fl : Int} : pkErr pr a1 p1 a2 p2 fl = 0 ↔ PkOk pr a1 p1 a2 p2 fl := by
  constructor
  · intro h
    unfold pkErr at h
    split at h
    · rename_i h'
      split at h
      · cases h
      · exact ⟨by omega, endB_ok.1 h'.2.1, endB_ok.1 h'.2.2.1, h'.2.2.2.1, h'.2.2.2.2⟩
    · cases h
  · intro ⟨h1, h2, h3, h4, h5⟩
    unfold pkErr
    rw [if_pos ⟨by omega, endB_ok.2 h2, endB_ok.2 h3, h4, h5⟩, if_neg (by omega)]
end Go.Proofs.YtpmoamfhppmicaaGreatDoor
