/-
  The library's slices.IndexFunc and slices.ContainsFunc, with the function that package policy's Same hands in.
-/
import Derived.Test.YtgmdnooknnikfaaDoorPsA
import Derived.Test.YtgmdnooknnikfaaDoorPoD
import Derived.Deep.RegionHeld3
namespace Go.Proofs.YtgmdnooknnikfaaDoor
open Go.RowKit

abbrev diffFn (A B : Nat) : Value := .func (.func 39) #[] #[.pointer (some ⟨A, 0, none⟩), .pointer (some ⟨B, 0, none⟩)]
/-- what the function asks: do the two policies part at this port? -/
structure Diff (w : World) (A B : Nat) (p q : Option Addr) (a b : List Rl) (ca cb : Nat) (pr : Int) (ou : Bool) (X Y : Nat) : Prop where
  cA : w.cell? ⟨A, 0, none⟩ = some (admFn X)
  cB : w.cell? ⟨B, 0, none⟩ = some (admFn Y)
  fA : AdmF w X p a.length ca pr ou
  fB : AdmF w Y q b.length cb pr ou
  rA : Rul w p a
  rB : Rul w q b
theorem Diff.below {w w' : World} {A B : Nat} {p q : Option Addr} {a b : List Rl} {ca cb : Nat} {pr : Int} {ou : Bool} {X Y : Nat} (h : Diff w A B p q a b ca cb pr ou X Y) (hb : Below w.heap.size w w') : Diff w' A B p q a b ca cb pr ou X Y :=
  ⟨Below.keeps hb h.cA, Below.keeps hb h.cB, h.fA.below hb, h.fB.below hb, h.rA.below hb, h.rB.below hb⟩
structure DiffB (w W : World) (A B : Nat) (p q : Option Addr) (a b : List Rl) (ca cb : Nat) (pr : Int) (ou : Bool) (X Y : Nat) : Prop where
  d : Diff W A B p q a b ca cb pr ou X Y
  b : Below w.heap.size w W
theorem DiffB.below {w W w' : World} {A B : Nat} {p q : Option Addr} {a b : List Rl} {ca cb : Nat} {pr : Int} {ou : Bool} {X Y : Nat} (h : DiffB w W A B p q a b ca cb pr ou X Y) (hb : Below W.heap.size W w') : DiffB w w' A B p q a b ca cb pr ou X Y := ⟨h.d.below hb, below2 h.b hb⟩
theorem DiffB.all {w W : World} {A B : Nat} {p q : Option Addr} {a b : List Rl} {ca cb : Nat} {pr : Int} {ou : Bool} {X Y : Nat} (h : DiffB w W A B p q a b ca cb pr ou X Y) :
    W.cell? ⟨A, 0, none⟩ = some (admFn X) ∧ W.cell? ⟨B, 0, none⟩ = some (admFn Y) ∧ DiffB w W A B p q a b ca cb pr ou X Y := ⟨h.d.cA, h.d.cB, h⟩
theorem heldA {w W : World} {A B : Nat} {p q : Option Addr} {a b : List Rl} {ca cb : Nat} {pr : Int} {ou : Bool} {X Y : Nat} {port : Int} (h : DiffB w W A B p q a b ca cb pr ou X Y) (ha : a.length ≤ 1000) :
    Calls Tryd.prog 54 #[.int .i64 port, .pointer (some ⟨X, 0, none⟩), .pointer (some ⟨X + 2, 0, none⟩), .pointer (some ⟨X + 1, 0, none⟩)] W fun e w' => e = .returned (.bool (adm a pr ou port)) ∧ DiffB w w' A B p q a b ca cb pr ou X Y := by
  refine (admit_at X p a ca pr port ou W h.d.fA h.d.rA ha).mono ?_
  rintro e w' ⟨rfl, hb⟩
  exact ⟨rfl, h.below hb⟩
theorem heldB {w W : World} {A B : Nat} {p q : Option Addr} {a b : List Rl} {ca cb : Nat} {pr : Int} {ou : Bool} {X Y : Nat} {port : Int} (h : DiffB w W A B p q a b ca cb pr ou X Y) (ha : b.length ≤ 1000) :
    Calls Tryd.prog 54 #[.int .i64 port, .pointer (some ⟨Y, 0, none⟩), .pointer (some ⟨Y + 2, 0, none⟩), .pointer (some ⟨Y + 1, 0, none⟩)] W fun e w' => e = .returned (.bool (adm b pr ou port)) ∧ DiffB w w' A B p q a b ca cb pr ou X Y := by
  refine (admit_at Y q b cb pr port ou W h.d.fB h.d.rB ha).mono ?_
  rintro e w' ⟨rfl, hb⟩
  exact ⟨rfl, h.below hb⟩
set_option maxRecDepth 100000 in
set_option maxHeartbeats 2000000 in
theorem diff_any {A B : Nat} {p q : Option Addr} {a b : List Rl} {ca cb : Nat} {pr : Int} {ou : Bool} {X Y : Nat} (port : Int) (w : World) (D : Diff w A B p q a b ca cb pr ou X Y) (ha : a.length ≤ 1000) (hb : b.length ≤ 1000) :
    Calls Tryd.prog 39 #[.int .i64 port, .pointer (some ⟨A, 0, none⟩), .pointer (some ⟨B, 0, none⟩)] w fun e w' => e = .returned (.bool (adm a pr ou port != adm b pr ou port)) ∧ Below w.heap.size w w' := by
  have D0 : DiffB w w.drew A B p q a b ca cb pr ou X Y := ⟨D.below (Below.refl _ _).drew, (Below.refl _ _).drew⟩
  have cA := D.cA
  have cB := D.cB
  clear D
  go_enter Tryd.func39, Tryd.ntmps39
  go_wp2_with fail
  go_region_held3 (fun w' => w'.cell? ⟨A, 0, none⟩ = some (admFn X) ∧ w'.cell? ⟨B, 0, none⟩ = some (admFn Y) ∧ DiffB w w' A B p q a b ca cb pr ou X Y) (first | assumption | exact DiffB.all (by assumption))
    (first
      | (go_at_call_of 54 (Value.pointer (some ⟨X, 0, none⟩)); refine (heldA (w := w) (by assumption) ha).mono ?_; rintro e w2 ⟨rfl, D2⟩)
      | (go_at_call_of 54 (Value.pointer (some ⟨Y, 0, none⟩)); refine (heldB (w := w) (by assumption) hb).mono ?_; rintro e w3 ⟨rfl, D3⟩))
  all_goals go_wp2_with fail
  all_goals go_ret
  all_goals exact ⟨rfl, D3.b⟩
set_option maxRecDepth 100000 in
set_option maxHeartbeats 2000000 in
theorem index_any {A B : Nat} {p q : Option Addr} {a b : List Rl} {ca cb : Nat} {pr : Int} {ou : Bool} {X Y : Nat} (v : Value) (xs : List Int) (w : World) (D : Diff w A B p q a b ca cb pr ou X Y) (ha : a.length ≤ 1000) (hb : b.length ≤ 1000) (I : Ints w v xs) (hx : xs.length ≤ 10000) :
    Calls Tryd.prog 56 #[v, diffFn A B] w fun e w' => (∃ k : Int, e = .returned (.int .i64 k) ∧ decide (k ≥ 0) = xs.any fun x => adm a pr ou x != adm b pr ou x) ∧ Below w.heap.size w w' := by
  have HD : Hid (Diff w A B p q a b ca cb pr ou X Y) := D
  have HI : Hid (Ints w v xs) := I
  obtain ⟨pv, kv, rfl⟩ : ∃ p cap, v = .slice p xs.length cap := by
    rcases I with ⟨rfl, rfl⟩ | ⟨g, cap, h1, _⟩
    · exact ⟨none, 0, rfl⟩
    · exact ⟨_, _, h1⟩
  clear D I
  go_enter Tryd.func56, Tryd.ntmps56
  go_wp2_with fail
  go_loopw [8] (fun t wr => ∃ j : Nat, j ≤ xs.length ∧ t = .int .i64 j ∧ ((xs.take j).any fun x => adm a pr ou x != adm b pr ou x) = false ∧ Below w.heap.size w wr) (fun t _ => xs.length - (intOf t).toNat)
  case atStart => exact ⟨0, Nat.zero_le _, rfl, rfl, Below.refl _ _⟩
  case round =>
    obtain ⟨j, hj, rfl, hno, hbr⟩ := hrel
    have HN : Hid (((xs.take j).any fun x => adm a pr ou x != adm b pr ou x) = false) := hno
    have HB : Hid (Below w.heap.size w wr) := hbr
    clear hno hbr
    by_cases hlt : j < xs.length
    · have hr : xs[j]? = some xs[j] := List.getElem?_eq_getElem hlt
      obtain ⟨y, hy⟩ : ∃ y, y = xs[j] := ⟨_, rfl⟩
      rw [← hy] at hr
      have HY : Hid (xs[j]? = some y) := hr
      clear hy
      obtain ⟨g, hg, hc⟩ : ∃ g, pv = some ⟨g, 0, none⟩ ∧ w.cell? ⟨g, j, none⟩ = some (.int .i64 y) := by
        rcases HI.out with ⟨_, h0⟩ | ⟨g, cap, h1, h2⟩
        · subst h0; simp at hlt
        · exact ⟨g, (Value.slice.inj h1).1, h2 j y hr⟩
      subst hg
      have hc := Below.keeps HB.out hc
      clear hr
      go_wp2_with fail
      refine (diff_any y _ (HD.out.below HB.out) ha hb).mono ?_
      rintro e w2 ⟨rfl, hb2⟩
      have HB2 : Hid (Below w.heap.size w w2) := below2 HB.out hb2
      clear hb2 hc
      rcases hd : (adm a pr ou y != adm b pr ou y) with _ | _
      · have HT : Hid (((xs.take (j + 1)).any fun x => adm a pr ou x != adm b pr ou x) = false) := by
          show _ = _
          rw [List.take_add_one, HY.out, List.any_append, HN.out]
          simp only [Option.toList_some, List.any_cons, List.any_nil, hd, Bool.or_false]
        clear hd
        go_wp2_with fail
        go_roundw
        case rel => exact ⟨j + 1, by omega, by go_num, HT.out, HB2.out⟩
        case measure => simp [intOf]; omega
      · have HT : Hid ((xs.any fun x => adm a pr ou x != adm b pr ou x) = true) := by
          show _ = _
          rw [List.any_eq_true]
          exact ⟨y, List.mem_of_getElem? HY.out, hd⟩
        clear hd
        go_wp2_with fail
        go_ret
        exact ⟨⟨_, rfl, by rw [HT.out, decide_eq_true_iff]; omega⟩, HB2.out⟩
    · obtain rfl : j = xs.length := by omega
      rw [List.take_length] at HN
      go_wp2_with fail
      go_ret
      exact ⟨⟨_, rfl, by rw [HN.out]; rfl⟩, HB.out⟩
set_option maxRecDepth 100000 in
set_option maxHeartbeats 2000000 in
theorem contains_any {A B : Nat} {p q : Option Addr} {a b : List Rl} {ca cb : Nat} {pr : Int} {ou : Bool} {X Y : Nat} (v : Value) (xs : List Int) (w : World) (D : Diff w A B p q a b ca cb pr ou X Y) (ha : a.length ≤ 1000) (hb : b.length ≤ 1000) (I : Ints w v xs) (hx : xs.length ≤ 10000) :
    Calls Tryd.prog 38 #[v, diffFn A B] w fun e w' => e = .returned (.bool (xs.any fun x => adm a pr ou x != adm b pr ou x)) ∧ Below w.heap.size w w' := by
  have HD : Hid (Diff w A B p q a b ca cb pr ou X Y) := D
  have HI : Hid (Ints w v xs) := I
  clear D I
  go_enter Tryd.func38, Tryd.ntmps38
  go_wp2_with fail
  refine (index_any v xs _ HD.out ha hb HI.out hx).mono ?_
  rintro e w2 ⟨⟨k, rfl, hk⟩, hb2⟩
  have HB2 : Hid (Below w.heap.size w w2) := hb2
  have HK : Hid (decide (k ≥ 0) = xs.any fun x => adm a pr ou x != adm b pr ou x) := hk
  clear hb2 hk
  go_wp2_with fail
  all_goals go_ret
  all_goals refine ⟨?_, HB2.out⟩
  all_goals rw [← HK.out]
  all_goals rfl
end Go.Proofs.YtgmdnooknnikfaaDoor
