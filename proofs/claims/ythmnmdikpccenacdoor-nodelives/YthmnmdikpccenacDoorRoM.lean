/-
  A role as plain mathematics: a tick, the next epoch, a claim, a beat.
-/
import Derived.Test.YthmnmdikpccenacDoorProg
namespace Go.Proofs.YthmnmdikpccenacDoor

/-- a role: its node, the greatest epoch that it knows, its silence, is it active. -/
structure Ro where
  nd : Int
  ep : Int
  si : Int
  ac : Bool
/-- its numbers are as they should be. -/
structure Ro.Ok (r : Ro) : Prop where
  n : r.nd = 0 ∨ r.nd = 1
  e0 : 0 ≤ r.ep
  e1 : r.ep ≤ 1073741824
  s0 : 0 ≤ r.si
  s1 : r.si ≤ 10
def isEpR (n : Int) : Bool := decide (0 ≤ n) && decide (n ≤ 1073741824)
theorem isEpR_iff {n : Int} : isEpR n = true ↔ 0 ≤ n ∧ n ≤ 1073741824 := by unfold isEpR; simp
def Ro.new (nd ep : Int) : Ro := ⟨nd, ep, 0, false⟩
def Ro.tickS (r : Ro) : Int := if r.si ≤ 9 then r.si + 1 else r.si
def Ro.tick (r : Ro) : Ro := if r.ac then r else ⟨r.nd, r.ep, r.tickS, false⟩
def Ro.rings (r : Ro) : Bool := if r.ac then false else decide (9 < r.tickS)
/-- the next epoch, however great. -/
def Ro.nx (r : Ro) : Int := if (r.ep + 1) % 2 = r.nd then r.ep + 1 else r.ep + 2
def Ro.nxE (r : Ro) : Nat := if 1073741824 < r.nx then 2 else 0
def Ro.nxV (r : Ro) : Int := if 1073741824 < r.nx then 0 else r.nx
def Ro.clE (r : Ro) (n : Int) : Nat := if r.ac then 11 else if 1073741824 < r.nx then 2 else if n = r.nx then 0 else 3
def Ro.claim (r : Ro) (n : Int) : Ro := if r.clE n = 0 then ⟨r.nd, n, r.si, true⟩ else r
def Ro.heard (r : Ro) (n : Int) : Bool := isEpR n && !decide (n < r.ep)
def Ro.falls (r : Ro) (n : Int) : Bool := r.heard n && (r.ac && decide (r.ep < n))
def Ro.hear (r : Ro) (n : Int) : Ro := if r.heard n then ⟨r.nd, n, 0, r.ac && !decide (r.ep < n)⟩ else r
theorem Ro.Ok.new {nd ep : Int} (h : nd = 0 ∨ nd = 1) (h0 : 0 ≤ ep) (h1 : ep ≤ 1073741824) : (Ro.new nd ep).Ok := ⟨h, h0, h1, Int.le_refl _, by show (0 : Int) ≤ 10; omega⟩
theorem Ro.Ok.tick {r : Ro} (h : r.Ok) : r.tick.Ok := by
  obtain ⟨hn, h0, h1, h2, h3⟩ := h
  unfold Ro.tick
  split
  · exact ⟨hn, h0, h1, h2, h3⟩
  · refine ⟨hn, h0, h1, ?_, ?_⟩ <;> (show _ ≤ _; simp only [Ro.tickS]; split <;> omega)
theorem Ro.nx_lt {r : Ro} : r.ep < r.nx ∧ r.nx ≤ r.ep + 2 := by unfold Ro.nx; split <;> omega
theorem Ro.nx_par {r : Ro} (h : r.Ok) : r.nx % 2 = r.nd := by
  have := h.n
  unfold Ro.nx; split <;> omega
theorem Ro.Ok.claim {r : Ro} (h : r.Ok) (n : Int) : (r.claim n).Ok := by
  obtain ⟨hn, h0, h1, h2, h3⟩ := h
  have := r.nx_lt
  unfold Ro.claim
  split
  · rename_i hc
    have hx : n = r.nx ∧ r.nx ≤ 1073741824 := by
      unfold Ro.clE at hc
      split at hc
      · cases hc
      · split at hc
        · cases hc
        · split at hc
          · exact ⟨by assumption, by omega⟩
          · cases hc
    exact ⟨hn, by show 0 ≤ n; omega, by show n ≤ _; omega, h2, h3⟩
  · exact ⟨hn, h0, h1, h2, h3⟩
theorem Ro.Ok.hear {r : Ro} (h : r.Ok) (n : Int) : (r.hear n).Ok := by
  unfold Ro.hear
  split
  · rename_i hh
    have : isEpR n = true := by
      unfold Ro.heard at hh
      simp at hh; exact hh.1
    obtain ⟨k0, k1⟩ := isEpR_iff.1 this
    exact ⟨h.n, k0, k1, Int.le_refl _, by show (0 : Int) ≤ 10; omega⟩
  · exact h
end Go.Proofs.YthmnmdikpccenacDoor
