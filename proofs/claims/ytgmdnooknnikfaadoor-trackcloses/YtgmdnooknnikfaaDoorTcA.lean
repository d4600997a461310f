/-
  The law TrackCloses, walked.
-/
import Derived.Test.YtgmdnooknnikfaaDoorTkC
import Derived.Deep.RegionHeld3
import Derived.SliceStrings
namespace Go.Proofs.YtgmdnooknnikfaaDoor
open Go.RowKit

/-- a slice that came in, of elements of one cell. -/
def RowIn {α : Type} (K : α → Value) (w : World) (v : Value) (xs : List α) : Prop :=
  ∃ (p : Option Addr) (cap : Nat), v = .slice p xs.length cap ∧ ∀ (j : Nat) x, xs[j]? = some x → ∃ b o, p = some ⟨b, o, none⟩ ∧ w.cell? ⟨b, o + j, none⟩ = some (K x)
theorem RowIn.below {α : Type} {K : α → Value} {w w' : World} {v : Value} {xs : List α} (h : RowIn K w v xs) (hb : Below w.heap.size w w') : RowIn K w' v xs := by
  obtain ⟨p, cap, h1, h2⟩ := h
  refine ⟨p, cap, h1, fun j x hx => ?_⟩
  obtain ⟨b, o, e, hc⟩ := h2 j x hx
  exact ⟨b, o, e, bk hb hc⟩
def intK (n : Int) : Value := .int .i64 n
def boolK (b : Bool) : Value := .bool b
/-- what holds of a flow's state, whether it was closed, whether it was answered. -/
def InvT (st : Int) (cl an : Bool) : Prop := (st = 1 ∨ st = 2 ∨ st = 3) ∧ (cl = true → st = 3) ∧ (st = 2 → an = true)
theorem next_is (pr st fl : Int) (ou : Bool) (r : Int) (g : Bool) (hr : nxtS pr st fl ou = r) (hg : nxtG pr fl = g) (w : World) :
    Calls Tryd.prog 25 #[.int .i64 pr, .int .i64 st, .int .i64 fl, .bool ou] w fun e w' => e = .returned (.tuple #[.int .i64 r, .bool g]) ∧ w' = w := by
  subst hr hg; exact next_any pr st fl ou w
theorem step_T {st fl : Int} {cl an ou : Bool} (h : InvT st cl an) (h8 : hasB fl 8 = false) :
    (nxtS 2 st fl ou = 3) ∨ (nxtS 2 st fl ou = 2 ∧ cl = false ∧ (ou = true → an = true)) ∨ (nxtS 2 st fl ou = 1 ∧ cl = false) := by
  obtain ⟨h1, h2, h3⟩ := h
  have e : nxtS 2 st fl ou = if hasB fl 4 = true then 3 else if st = 1 ∧ ou = false ∧ hasB fl 3 = true then 2 else st := by
    unfold nxtS; rw [if_pos rfl, if_neg (by rw [h8]; simp)]
  rw [e]
  split
  · exact .inl rfl
  split
  · rename_i h4
    refine .inr (.inl ⟨rfl, ?_, ?_⟩)
    · cases cl
      · rfl
      · have := h2 rfl; omega
    · rw [h4.2.1]; intro x; cases x
  · rcases h1 with rfl | rfl | rfl
    · refine .inr (.inr ⟨rfl, ?_⟩)
      cases cl
      · rfl
      · have := h2 rfl; omega
    · refine .inr (.inl ⟨rfl, ?_, fun _ => h3 rfl⟩)
      cases cl
      · rfl
      · have := h2 rfl; omega
    · exact .inl rfl
set_option maxRecDepth 100000 in
set_option maxHeartbeats 4000000 in
theorem closes_any (v0 v1 : Value) (fs : List Int) (os : List Bool) (w : World) (F : RowIn intK w v0 fs) (O : RowIn boolK w v1 os) :
    Calls Tryd.prog 7 #[v0, v1] w fun e w' => e = .returned (.bool true) ∧ Below w.heap.size w w' := by
  have HF : Hid (RowIn intK w v0 fs) := F
  have HO : Hid (RowIn boolK w v1 os) := O
  obtain ⟨p0, k0, rfl, F0⟩ := F
  obtain ⟨p1, k1, rfl, O0⟩ := O
  have F1 : Hid (∀ (j : Nat) x, fs[j]? = some x → ∃ b o, p0 = some ⟨b, o, none⟩ ∧ w.cell? ⟨b, o + j, none⟩ = some (intK x)) := F0
  have O1 : Hid (∀ (j : Nat) x, os[j]? = some x → ∃ b o, p1 = some ⟨b, o, none⟩ ∧ w.cell? ⟨b, o + j, none⟩ = some (boolK x)) := O0
  clear F0 O0 HF HO
  go_enter Tryd.func7, Tryd.ntmps7
  go_wp2_with fail
  refine (tracked_any _).mono ?_
  rintro e w1 ⟨rfl, hb1⟩
  have B1 : Hid (Below w.heap.size w w1) := hb1
  clear hb1
  by_cases hs1 : 60 < fs.length
  · go_wp2_with fail
    all_goals go_ret
    all_goals exact ⟨rfl, B1.out⟩
  by_cases hs2 : os.length < fs.length
  · go_wp2_with fail
    all_goals go_ret
    all_goals exact ⟨rfl, B1.out⟩
  have hz1 : decide ((60 : Int) < (fs.length : Int)) = false := by simp; omega
  have hz2 : decide ((os.length : Int) < (fs.length : Int)) = false := by simp; omega
  go_wp2_with fail
  go_loopw [6, 7, 8, 9] (fun a b c t wr => ∃ (j : Nat) (st : Int) (cl an : Bool), j ≤ fs.length ∧ t = .int .i64 j ∧ a = .int .i64 st ∧ b = .bool cl ∧ c = .bool an ∧ InvT st cl an ∧ Below w.heap.size w wr) (fun _ _ _ t _ => fs.length - (intOf t).toNat)
  case atStart => exact ⟨0, 1, false, false, Nat.zero_le _, rfl, rfl, rfl, rfl, ⟨.inl rfl, (fun h => by cases h), (fun h => by omega)⟩, B1.out⟩
  case round =>
    obtain ⟨j, st, cl, an, hj, rfl, rfl, rfl, rfl, hinv, hbr⟩ := hrel
    have HI : Hid (InvT st cl an) := hinv
    have HB : Hid (Below w.heap.size w wr) := hbr
    clear hinv hbr
    by_cases hlt : j < fs.length
    · have hj1 : j < os.length := by omega
      have hf : fs[j]? = some fs[j] := List.getElem?_eq_getElem hlt
      have ho : os[j]? = some os[j] := List.getElem?_eq_getElem hj1
      generalize fs[j] = f at hf
      generalize os[j] = ou at ho
      obtain ⟨x0, o0, rfl, c0⟩ := F1.out j f hf
      obtain ⟨x1, o1, rfl, c1⟩ := O1.out j ou ho
      have d0 : wr.cell? ⟨x0, o0 + j, none⟩ = some (.int .i64 f) := bk HB.out c0
      have d1 : wr.cell? ⟨x1, o1 + j, none⟩ = some (.bool ou) := bk HB.out c1
      clear c0 c1 hf ho
      have bj0 : (0 : Int) ≤ (j : Int) := by omega
      have bj1 : (j : Int) < fs.length := by omega
      have bj2 : (j : Int) < os.length := by omega
      rcases h8 : hasB f 8 with _ | _
      · obtain ⟨r, hr⟩ : ∃ r, nxtS 2 st f ou = r := ⟨_, rfl⟩
        have HR : Hid (nxtS 2 st f ou = r) := hr
        have HG : Hid (nxtG 2 f = false) := by show _ = _; unfold nxtG; rw [h8]; rfl
        have hst := step_T (ou := ou) HI.out h8
        rw [hr] at hst
        clear h8 hr
        go_wp2_with fail
        go_region_held3 (fun w' => w'.cell? ⟨x0, o0 + j, none⟩ = some (.int .i64 f) ∧ w'.cell? ⟨x1, o1 + j, none⟩ = some (.bool ou) ∧ Below w.heap.size w w') (first | assumption | exact ⟨d0, d1, HB.out.drew⟩)
          (first | (go_at_call 25; refine (next_is 2 st f ou r false HR.out HG.out _).mono ?_; rintro e w2 ⟨rfl, rfl⟩))
        have d2 : wr.drew.cell? ⟨x1, o1 + j, none⟩ = some (.bool ou) := d1
        have HB2 : Hid (Below w.heap.size w wr.drew) := HB.out.drew
        rcases hst with rfl | ⟨rfl, rfl, han⟩ | ⟨rfl, rfl⟩
        · cases ou
          all_goals
            go_wp2_with fail
            go_roundw
            case rel => exact ⟨j + 1, 3, true, _, by omega, by go_num, rfl, rfl, rfl, ⟨by omega, fun _ => rfl, fun h => by omega⟩, HB2.out⟩
            case measure => simp [intOf]; omega
        · cases ou
          · go_wp2_with fail
            go_roundw
            case rel => exact ⟨j + 1, 2, false, true, by omega, by go_num, rfl, rfl, rfl, ⟨by omega, (fun h => by cases h), fun _ => rfl⟩, HB2.out⟩
            case measure => simp [intOf]; omega
          · obtain rfl := han rfl
            go_wp2_with fail
            go_roundw
            case rel => exact ⟨j + 1, 2, false, true, by omega, by go_num, rfl, rfl, rfl, ⟨by omega, (fun h => by cases h), fun _ => rfl⟩, HB2.out⟩
            case measure => simp [intOf]; omega
        · cases ou
          all_goals
            go_wp2_with fail
            go_roundw
            case rel => exact ⟨j + 1, 1, false, _, by omega, by go_num, rfl, rfl, rfl, ⟨by omega, (fun h => by cases h), fun h => by omega⟩, HB2.out⟩
            case measure => simp [intOf]; omega
      · have HR : Hid (nxtS 2 st f ou = 0) := by show _ = _; unfold nxtS; rw [if_pos rfl, if_pos h8]
        have HG : Hid (nxtG 2 f = true) := by show _ = _; unfold nxtG; rw [h8]; rfl
        have hne : (bits BinOp.and IntKind.i64 f 8 != 0) = true := has8_ne h8
        clear h8
        go_wp2_with fail
        go_region_held3 (fun w' => w'.cell? ⟨x0, o0 + j, none⟩ = some (.int .i64 f) ∧ w'.cell? ⟨x1, o1 + j, none⟩ = some (.bool ou) ∧ Below w.heap.size w w') (first | assumption | exact ⟨d0, d1, HB.out.drew⟩)
          (first | (go_at_call 25; refine (next_is 2 st f ou 0 true HR.out HG.out _).mono ?_; rintro e w2 ⟨rfl, rfl⟩))
        have d2 : wr.drew.cell? ⟨x0, o0 + j, none⟩ = some (.int .i64 f) := d0
        have HB2 : Hid (Below w.heap.size w wr.drew) := HB.out.drew
        go_wp2_with fail
        go_ret
        exact ⟨rfl, HB2.out⟩
    · go_wp2_with fail
      go_ret
      exact ⟨rfl, HB.out⟩
end Go.Proofs.YtgmdnooknnikfaaDoor
