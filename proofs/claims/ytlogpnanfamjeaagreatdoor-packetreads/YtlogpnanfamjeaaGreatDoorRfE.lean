/-
  The document's answer: endOf.
-/
import Derived.Test.YtlogpnanfamjeaaGreatDoorRfK
import Derived.Test.YtlogpnanfamjeaaGreatDoorPkE
import Derived.Deep.RegionHeld3
namespace Go.Proofs.YtlogpnanfamjeaaGreatDoor
open Go.RowKit

theorem blw_all {w a b : World} (h : Below w.heap.size w a) (k : Below a.heap.size a b) : Below w.heap.size w b := h.trans (k.mono h.size)
theorem blw_drew {w b : World} (k : Below w.drew.heap.size w.drew b) : Below w.heap.size w b := blw_all (Below.refl _ _).drew k
theorem blw_frozen {w w' : World} (h : Below w.heap.size w w') {a : Addr} {v : Value} (hc : w.cell? a = some v) : w'.frozen? a = w.frozen? a := h.frozen (p := a) (block_lt hc)
/-- an end's place in the call's own memory. -/
def R2 (w W : World) : Prop := W.cell? ⟨w.heap.size, 0, none⟩ = some (.int .i64 0) ∧ W.cell? ⟨w.heap.size, 1, none⟩ = some (.int .i64 0) ∧ W.frozen? ⟨w.heap.size, 0, none⟩ = false ∧ W.frozen? ⟨w.heap.size, 1, none⟩ = false ∧ Below w.heap.size w W
theorem R2.below {w W V : World} (h : R2 w W) (hb : Below W.heap.size W V) : R2 w V := by
  obtain ⟨h0, h1, h2, h3, h4⟩ := h
  exact ⟨below_keeps hb h0, below_keeps hb h1, by rw [blw_frozen hb h0]; exact h2, by rw [blw_frozen hb h1]; exact h3, blw_all h4 hb⟩
theorem held2 {w W V : World} {q : Nat} {a p : Int} (h : W.cell? ⟨q, 0, none⟩ = some (.int .i64 a) ∧ W.cell? ⟨q, 1, none⟩ = some (.int .i64 p) ∧ R2 w W) (hb : Below W.heap.size W V) :
    V.cell? ⟨q, 0, none⟩ = some (.int .i64 a) ∧ V.cell? ⟨q, 1, none⟩ = some (.int .i64 p) ∧ R2 w V := ⟨below_keeps hb h.1, below_keeps hb h.2.1, h.2.2.below hb⟩
theorem held2_drew {w W : World} {q : Nat} {a p : Int} (h0 : W.cell? ⟨q, 0, none⟩ = some (.int .i64 a)) (h1 : W.cell? ⟨q, 1, none⟩ = some (.int .i64 p)) (h : R2 w W) :
    W.drew.cell? ⟨q, 0, none⟩ = some (.int .i64 a) ∧ W.drew.cell? ⟨q, 1, none⟩ = some (.int .i64 p) ∧ R2 w W.drew := held2 ⟨h0, h1, h⟩ (Below.refl _ _).drew
set_option maxRecDepth 100000 in
set_option maxHeartbeats 4000000 in
theorem endOf_not (x : ByteArray) (hx : x.size ≤ 1000) (w : World) (h : (cutFrom 58 [] x.data.toList).length ≠ 2) :
    Calls Tryz.prog 32 #[.string x] w fun e w' => e = .returned (.tuple #[.agg #[.int .i64 0, .int .i64 0], .bool false]) ∧ Below w.heap.size w w' := by
  have H : Hid ((cutFrom 58 [] x.data.toList).length ≠ 2) := h
  clear h
  have hb0 : Hid (Below w.heap.size w (w.alloc (.cells #[.int .i64 0, .int .i64 0] 23))) := (Below.refl _ _).alloc (Nat.le_refl _) _
  go_enter Tryz.func32, Tryz.ntmps32
  go_wp2_with fail
  refine (cutRef_any x hx 58 _).mono ?_
  rintro e w1 ⟨⟨g, cap, rfl, _⟩, hb1⟩
  have HB1 : Hid (Below w.heap.size w w1) := blw_all hb0.out hb1
  have r0 : w1.cell? ⟨w.heap.size, 0, none⟩ = some (.int .i64 0) := below_keeps hb1 (by simp [go_sem])
  have r1 : w1.cell? ⟨w.heap.size, 1, none⟩ = some (.int .i64 0) := below_keeps hb1 (by simp [go_sem])
  have f0 : w1.frozen? ⟨w.heap.size, 0, none⟩ = false := by rw [blw_frozen hb1 (v := .int .i64 0) (by simp [go_sem]), World.frozen?_alloc_at _ _ _ _ rfl]
  have f1 : w1.frozen? ⟨w.heap.size, 1, none⟩ = false := by rw [blw_frozen hb1 (v := .int .i64 0) (by simp [go_sem]), World.frozen?_alloc_at _ _ _ _ rfl]
  clear hb1
  have hn : (((cutFrom 58 [] x.data.toList).length : Int) != 2) = true := by rw [bne_iff_ne]; have := H.out; omega
  clear H
  generalize (cutFrom 58 [] x.data.toList).length = n at *
  go_wp2_with fail
  exact bodyPost_ret (v := .tuple #[.agg #[.int .i64 0, .int .i64 0], .bool false]) (by simp [results, Tryz.results32, go_sem, r0, r1]) rfl ⟨rfl, by
    repeat (first | refine Below.setCell ?_ (by exact Nat.le_refl _) _ | refine Below.drew ?_ | exact HB1.out)⟩
set_option maxRecDepth 100000 in
set_option maxHeartbeats 4000000 in
theorem endOf_two (x u v : ByteArray) (hx : x.size ≤ 1000) (w : World) (h : cutFrom 58 [] x.data.toList = [u, v]) (b : Bool) (hb : endB (numOf u.data.toList 9) (numOf v.data.toList 9) = b) :
    Calls Tryz.prog 32 #[.string x] w fun e w' => e = .returned (.tuple #[.agg #[.int .i64 (numOf u.data.toList 9), .int .i64 (numOf v.data.toList 9)], .bool b]) ∧ Below w.heap.size w w' := by
  have H : Hid (cutFrom 58 [] x.data.toList = [u, v]) := h
  have HE : Hid (endB (numOf u.data.toList 9) (numOf v.data.toList 9) = b) := hb
  clear h hb
  have h1 := numberOf_any u 9 (by decide) (by decide)
  have h2 := numberOf_any v 9 (by decide) (by decide)
  generalize numOf u.data.toList 9 = a at *
  generalize numOf v.data.toList 9 = p at *
  have h3 := isEnd_any a p b HE.out
  have H1 : Hid (∀ w : World, Calls Tryz.prog 43 #[.string u, .int .i64 9] w fun e w' => e = .returned (.int .i64 a) ∧ w' = w) := h1
  have H2 : Hid (∀ w : World, Calls Tryz.prog 43 #[.string v, .int .i64 9] w fun e w' => e = .returned (.int .i64 p) ∧ w' = w) := h2
  have H3 : Hid (∀ w : World, Calls Tryz.prog 22 #[.agg #[.int .i64 a, .int .i64 p]] w fun e w' => e = .returned (.bool b) ∧ Below w.heap.size w w') := h3
  clear h1 h2 h3 HE
  have hb0 : Hid (Below w.heap.size w (w.alloc (.cells #[.int .i64 0, .int .i64 0] 23))) := (Below.refl _ _).alloc (Nat.le_refl _) _
  go_enter Tryz.func32, Tryz.ntmps32
  go_wp2_with fail
  refine (cutRef_any x hx 58 _).mono ?_
  rw [H.out]
  rintro e w1 ⟨⟨g, cap, rfl, hcell⟩, hb1⟩
  have HB1 : Hid (Below w.heap.size w w1) := blw_all hb0.out hb1
  have r0 : w1.cell? ⟨w.heap.size, 0, none⟩ = some (.int .i64 0) := below_keeps hb1 (by simp [go_sem])
  have r1 : w1.cell? ⟨w.heap.size, 1, none⟩ = some (.int .i64 0) := below_keeps hb1 (by simp [go_sem])
  have f0 : w1.frozen? ⟨w.heap.size, 0, none⟩ = false := by rw [blw_frozen hb1 (v := .int .i64 0) (by simp [go_sem]), World.frozen?_alloc_at _ _ _ _ rfl]
  have f1 : w1.frozen? ⟨w.heap.size, 1, none⟩ = false := by rw [blw_frozen hb1 (v := .int .i64 0) (by simp [go_sem]), World.frozen?_alloc_at _ _ _ _ rfl]
  have hlt : w.heap.size < w1.heap.size := block_lt r0
  have c0 : w1.cell? ⟨g, 0, none⟩ = some (.string u) := hcell 0 u rfl
  have c1 : w1.cell? ⟨g, 1, none⟩ = some (.string v) := hcell 1 v rfl
  clear hb1 hcell
  go_wp2_with fail
  go_region_held3 (fun w' => w'.cell? ⟨g, 0, none⟩ = some (.string u) ∧ w'.cell? ⟨g, 1, none⟩ = some (.string v)) (go_keep)
    (first
      | (go_at_call_of 43 (Value.string u); refine (H1.out _).mono ?_; rintro e w2 ⟨rfl, rfl⟩)
      | (go_at_call_of 43 (Value.string v); refine (H2.out _).mono ?_; rintro e w2 ⟨rfl, rfl⟩))
  all_goals go_wp2_with fail
  all_goals
    have hR : R2 w (w1.alloc (.cells #[.int .i64 a, .int .i64 p] 23)).drew := R2.below ⟨r0, r1, f0, f1, HB1.out⟩ ((Below.refl _ _).alloc (Nat.le_refl _) _).drew
    have d0 : (w1.alloc (.cells #[.int .i64 a, .int .i64 p] 23)).drew.cell? ⟨w1.heap.size, 0, none⟩ = some (.int .i64 a) := by simp [go_sem]
    have d1 : (w1.alloc (.cells #[.int .i64 a, .int .i64 p] 23)).drew.cell? ⟨w1.heap.size, 1, none⟩ = some (.int .i64 p) := by simp [go_sem]
    generalize (w1.alloc (.cells #[.int .i64 a, .int .i64 p] 23)).drew = W at *
    generalize w1.heap.size = q at *
    clear r0 r1 f0 f1 c0 c1
    have HR : Hid (R2 w W) := hR
    obtain ⟨r0, r1, f0, f1, _⟩ := hR
    go_region_with (first
      | (go_at_call 22; refine (H3.out _).mono ?_; rintro e w2 ⟨rfl, hb2⟩;
          have hk := R2.below HR.out (blw_drew hb2); obtain ⟨s0, s1, g0, g1, hB⟩ := hk; have e0 := below_keeps (blw_drew hb2) d0; have e1 := below_keeps (blw_drew hb2) d1; have HB2 : Hid (Below w.heap.size w w2) := hB; clear hB hb2))
  all_goals go_wp2_with fail
  all_goals exact bodyPost_ret (v := .tuple #[.agg #[.int .i64 a, .int .i64 p], .bool b]) (by simp [results, Tryz.results32, go_sem, s0, s1]) rfl ⟨rfl, by
    repeat (first | refine Below.setCell ?_ (by exact Nat.le_refl _) _ | refine Below.drew ?_ | exact HB2.out)⟩
/-- the document's end of a text: two numbers, and whether it is one. -/
def endR (x : ByteArray) : Int × Int × Bool :=
  match cutFrom 58 [] x.data.toList with
  | [u, v] => (numOf u.data.toList 9, numOf v.data.toList 9, endB (numOf u.data.toList 9) (numOf v.data.toList 9))
  | _ => (0, 0, false)
theorem endOf_any (x : ByteArray) (hx : x.size ≤ 1000) (w : World) :
    Calls Tryz.prog 32 #[.string x] w fun e w' => e = .returned (.tuple #[.agg #[.int .i64 (endR x).1, .int .i64 (endR x).2.1], .bool (endR x).2.2]) ∧ Below w.heap.size w w' := by
  unfold endR
  split
  · rename_i u v h
    exact endOf_two x u v hx w h _ rfl
  · rename_i h
    refine endOf_not x hx w (fun e => ?_)
    match hc : cutFrom 58 [] x.data.toList, e with
    | [u, v], _ => exact h u v hc
end Go.Proofs.YtlogpnanfamjeaaGreatDoor
