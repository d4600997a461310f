/-
  What plain.Code answers: nil, each sentinel of package api, an *api.Fault that wraps one, and another error of errors.New's make. Conditions: the sentinels' cells are as laid ('Sents').
-/
import Derived.Test.YtpmoamfhppmicaaGreatDoorIs
import Derived.Below
namespace Go.Proofs.YtpmoamfhppmicaaGreatDoor
open Go.RowKit Go.Extern.Stop Go.Stop Go.Extern

theorem block_lt {w : World} {a : Addr} {v : Value} (hc : w.cell? a = some v) : a.block < w.heap.size := by
  rcases Nat.lt_or_ge a.block w.heap.size with h | h
  · exact h
  · simp [World.cell?, Array.getElem?_eq_none h] at hc
theorem below_keeps {w w' : World} (h : Below w.heap.size w w') {a : Addr} {v : Value} (hc : w.cell? a = some v) : w'.cell? a = some v := by
  rw [h.cell (p := a) (block_lt hc)]; exact hc

/-- WHAT THE LAID VARIABLES GIVE: the eleven sentinels' cells, their rows, that no two are one, and errors.errorType. -/
structure Sents (w : World) (s : Nat → Addr) : Prop where
  et : w.cell? ⟨12, 0, none⟩ = some (.iface 108 (.agg #[.pointer (some ⟨21, 25, none⟩)]))
  c0 : w.cell? ⟨1, 0, none⟩ = some (.iface 161 (.pointer (some (s 0))))
  c1 : w.cell? ⟨0, 0, none⟩ = some (.iface 161 (.pointer (some (s 1))))
  c2 : w.cell? ⟨3, 0, none⟩ = some (.iface 161 (.pointer (some (s 2))))
  c3 : w.cell? ⟨4, 0, none⟩ = some (.iface 161 (.pointer (some (s 3))))
  c4 : w.cell? ⟨5, 0, none⟩ = some (.iface 161 (.pointer (some (s 4))))
  c5 : w.cell? ⟨6, 0, none⟩ = some (.iface 161 (.pointer (some (s 5))))
  c6 : w.cell? ⟨7, 0, none⟩ = some (.iface 161 (.pointer (some (s 6))))
  c7 : w.cell? ⟨8, 0, none⟩ = some (.iface 161 (.pointer (some (s 7))))
  c8 : w.cell? ⟨9, 0, none⟩ = some (.iface 161 (.pointer (some (s 8))))
  c9 : w.cell? ⟨10, 0, none⟩ = some (.iface 161 (.pointer (some (s 9))))
  c10 : w.cell? ⟨11, 0, none⟩ = some (.iface 161 (.pointer (some (s 10))))
  row : ∀ i, i < 11 → ∃ c t, w.heap[(s i).block]? = some (.cells c t (0, 0))
  ne : ∀ i j, i < 11 → j < 11 → i ≠ j → s i ≠ s j

theorem Sents.below {w w' : World} {s : Nat → Addr} (S : Sents w s) (hb : Below w.heap.size w w') : Sents w' s where
  et := below_keeps hb S.et
  c0 := below_keeps hb S.c0
  c1 := below_keeps hb S.c1
  c2 := below_keeps hb S.c2
  c3 := below_keeps hb S.c3
  c4 := below_keeps hb S.c4
  c5 := below_keeps hb S.c5
  c6 := below_keeps hb S.c6
  c7 := below_keeps hb S.c7
  c8 := below_keeps hb S.c8
  c9 := below_keeps hb S.c9
  c10 := below_keeps hb S.c10
  row := fun i hi => by
    obtain ⟨c, t, h⟩ := S.row i hi
    refine ⟨c, t, ?_⟩
    rw [hb.block _ (by
      rcases Nat.lt_or_ge (s i).block w.heap.size with h' | h'
      · exact h'
      · simp [Array.getElem?_eq_none h'] at h)]
    exact h
  ne := S.ne

abbrev sentArr (s : Nat → Addr) : Array Value := #[.iface 161 (.pointer (some (s 0))), .iface 161 (.pointer (some (s 1))), .iface 161 (.pointer (some (s 2))), .iface 161 (.pointer (some (s 3))), .iface 161 (.pointer (some (s 4))), .iface 161 (.pointer (some (s 5))), .iface 161 (.pointer (some (s 6))), .iface 161 (.pointer (some (s 7))), .iface 161 (.pointer (some (s 8))), .iface 161 (.pointer (some (s 9))), .iface 161 (.pointer (some (s 10)))]
theorem sent_cell (s : Nat → Addr) (w : World) (j : Nat) (h : j < 11) : (w.alloc (.cells (sentArr s) 25)).cell? ⟨w.heap.size, j, none⟩ = some (.iface 161 (.pointer (some (s j)))) := by
  rw [World.cell?_alloc_at _ _ _ _ rfl]
  match j, h with
  | 0, _ => rfl
  | 1, _ => rfl
  | 2, _ => rfl
  | 3, _ => rfl
  | 4, _ => rfl
  | 5, _ => rfl
  | 6, _ => rfl
  | 7, _ => rfl
  | 8, _ => rfl
  | 9, _ => rfl
  | 10, _ => rfl
theorem as_missB (e t : Addr) (w : World) (hg : w.cell? ⟨12, 0, none⟩ = some (.iface 108 (.agg #[.pointer (some ⟨21, 25, none⟩)]))) :
    Calls Tryz.prog 31 #[.iface 161 (.pointer (some e)), .iface 73 (.pointer (some t))] w fun ev w' => ev = .returned (.bool false) ∧ Below w.heap.size w w' :=
  (as_miss e t w hg).mono fun _ _ ⟨h1, h2⟩ => ⟨h1, by
    rw [h2]; exact (((Below.refl _ _).alloc (Nat.le_refl _) _).alloc (by simp) _).alloc (by simp; omega) _⟩

theorem code_nil (w : World) : Calls Tryz.prog 19 #[.nilIface] w fun e w' => e = .returned (.tuple #[.int .i64 0, .int .i64 (-1)]) ∧ w' = w := by
  go_enter Tryz.func19, Tryz.ntmps19
  go_wp2
  go_ret2
  exact ⟨rfl, rfl⟩

theorem as_hitB (B : Nat) (e t : Addr) (old : Value) (w : World) (hg : w.cell? ⟨12, 0, none⟩ = some (.iface 108 (.agg #[.pointer (some ⟨21, 25, none⟩)]))) (ht0 : w.cell? t = some old) (hf0 : w.frozen? t = false) (hB : B ≤ w.heap.size) (hBt : B ≤ t.block) :
    Calls Tryz.prog 31 #[.iface 60 (.pointer (some e)), .iface 73 (.pointer (some t))] w fun ev w' => ev = .returned (.bool true) ∧ Below B w w' ∧ w'.cell? t = some (.pointer (some e)) :=
  (as_hit e t old w hg ht0 hf0).mono fun _ _ ⟨h1, h2⟩ => by
    have hl := block_lt ht0
    refine ⟨h1, ?_, ?_⟩
    · rw [h2]; exact (((((Below.refl _ _).alloc hB _).alloc (by simp; omega) _).alloc (by simp; omega) _).alloc (by simp; omega) _).setCell hBt _
    · rw [h2]; refine World.cell?_setCell_same _ _ _ (u := old) ?_
      rw [World.cell?_alloc_lt _ _ t (by simp; omega), World.cell?_alloc_lt _ _ t (by simp; omega), World.cell?_alloc_lt _ _ t (by simp; omega), World.cell?_alloc_lt _ _ t hl]; exact ht0

set_option maxHeartbeats 1000000 in
theorem code_sent (k : Nat) (hk : k < 11) (s : Nat → Addr) (w : World) (S : Sents w s) :
    Calls Tryz.prog 19 #[.iface 161 (.pointer (some (s k)))] w fun e w' => e = .returned (.tuple #[.int .i64 ((k : Int) + 1), .int .i64 (-1)]) ∧ Below w.heap.size w w' := by
  have hS : Hid (Sents w s) := S
  clear S
  go_enter Tryz.func19, Tryz.ntmps19
  go_wp2_with fail
  refine (as_missB _ _ _ ?_).mono ?_
  · exact (hS.out.below ((Below.refl _ _).alloc (Nat.le_refl _) _)).et
  rintro e w1 ⟨rfl, hb⟩
  have S1 : Sents w1 s := (hS.out.below ((Below.refl _ _).alloc (Nat.le_refl _) _)).below hb
  have d0 := S1.c0
  have d1 := S1.c1
  have d2 := S1.c2
  have d3 := S1.c3
  have d4 := S1.c4
  have d5 := S1.c5
  have d6 := S1.c6
  have d7 := S1.c7
  have d8 := S1.c8
  have d9 := S1.c9
  have d10 := S1.c10
  have hS1 : Hid (Sents w1 s) := S1
  have HB : Hid (Below w.heap.size w w1) := ((Below.refl _ _).alloc (Nat.le_refl _) _).trans (hb.mono (by simp))
  have R : Hid (∀ i, i < 11 → ∃ c t, (w1.alloc (.cells (sentArr s) 25)).heap[(s i).block]? = some (.cells c t (0, 0))) := (S1.below ((Below.refl _ _).alloc (Nat.le_refl _) _)).row
  clear S1 hb
  go_wp2_with fail
  have hcell : ∀ j : Nat, j < 11 → (w1.alloc (.cells (sentArr s) 25)).cell? ⟨w1.heap.size, j, none⟩ = some (.iface 161 (.pointer (some (s j)))) := sent_cell s w1
  have HC : Hid (∀ j : Nat, j < 11 → (w1.alloc (.cells (sentArr s) 25)).cell? ⟨w1.heap.size, j, none⟩ = some (.iface 161 (.pointer (some (s j))))) := hcell
  clear hcell d0 d1 d2 d3 d4 d5 d6 d7 d8 d9 d10
  go_loop [3, 29] (fun a t => a = .int .i64 (-1) ∧ ∃ j : Nat, j ≤ k ∧ t = .int .i64 j) (fun _ t => 11 - (intOf t).toNat)
  case atStart => exact ⟨rfl, 0, Nat.zero_le _, rfl⟩
  case round =>
    obtain ⟨rfl, j, hj, rfl⟩ := hrel
    have hj11 : j < 11 := by omega
    have hc := HC.out j hj11
    unfold sentArr at hc
    by_cases hjk : j < k
    · go_wp2_with fail
      refine (is_other (s k) (s j) _ _ _ _ _ (hS1.out.ne k j hk hj11 (by omega)) (R.out k hk).choose_spec.choose_spec (R.out j hj11).choose_spec.choose_spec).mono ?_
      rintro e w' ⟨rfl, rfl⟩
      go_wp2_with fail
      go_round
      case rel => exact ⟨rfl, j + 1, by omega, by go_num⟩
      case measure => simp [intOf]; omega
    · obtain rfl : j = k := by omega
      go_wp2_with fail
      refine (is_same (s j) _).mono ?_
      rintro e w' ⟨rfl, rfl⟩
      go_wp2_with fail
      go_ret2
      exact ⟨rfl, HB.out.alloc HB.out.size _⟩
set_option maxHeartbeats 1000000 in
/-- an error of errors.New's make that is none of the eleven. -/
theorem code_other (x : Addr) (cx : Array Value) (tx : TypeId) (s : Nat → Addr) (w : World) (S : Sents w s) (hx : w.heap[x.block]? = some (.cells cx tx (0, 0))) (hne : ∀ i, i < 11 → x ≠ s i) :
    Calls Tryz.prog 19 #[.iface 161 (.pointer (some x))] w fun e w' => e = .returned (.tuple #[.int .i64 (-1), .int .i64 (-1)]) ∧ Below w.heap.size w w' := by
  have hS : Hid (Sents w s) := S
  clear S
  have HX : Hid (x.block < w.heap.size) := by
    rcases Nat.lt_or_ge x.block w.heap.size with h | h
    · exact h
    · simp [Array.getElem?_eq_none h] at hx
  have hX : Hid (w.heap[x.block]? = some (.cells cx tx (0, 0))) := hx
  have hN : Hid (∀ i, i < 11 → x ≠ s i) := hne
  clear hx hne
  go_enter Tryz.func19, Tryz.ntmps19
  go_wp2_with fail
  refine (as_missB _ _ _ ?_).mono ?_
  · exact (hS.out.below ((Below.refl _ _).alloc (Nat.le_refl _) _)).et
  rintro e w1 ⟨rfl, hb⟩
  have S1 : Sents w1 s := (hS.out.below ((Below.refl _ _).alloc (Nat.le_refl _) _)).below hb
  have d0 := S1.c0
  have d1 := S1.c1
  have d2 := S1.c2
  have d3 := S1.c3
  have d4 := S1.c4
  have d5 := S1.c5
  have d6 := S1.c6
  have d7 := S1.c7
  have d8 := S1.c8
  have d9 := S1.c9
  have d10 := S1.c10
  have hS1 : Hid (Sents w1 s) := S1
  have HB : Hid (Below w.heap.size w w1) := ((Below.refl _ _).alloc (Nat.le_refl _) _).trans (hb.mono (by simp))
  have R : Hid (∀ i, i < 11 → ∃ c t, (w1.alloc (.cells (sentArr s) 25)).heap[(s i).block]? = some (.cells c t (0, 0))) := (S1.below ((Below.refl _ _).alloc (Nat.le_refl _) _)).row
  have RX : Hid ((w1.alloc (.cells (sentArr s) 25)).heap[x.block]? = some (.cells cx tx (0, 0))) := by
    show _ = _
    rw [(HB.out.alloc HB.out.size (.cells (sentArr s) 25)).block _ HX.out]; exact hX.out
  clear S1 hb
  go_wp2_with fail
  have hcell : ∀ j : Nat, j < 11 → (w1.alloc (.cells (sentArr s) 25)).cell? ⟨w1.heap.size, j, none⟩ = some (.iface 161 (.pointer (some (s j)))) := sent_cell s w1
  have HC : Hid (∀ j : Nat, j < 11 → (w1.alloc (.cells (sentArr s) 25)).cell? ⟨w1.heap.size, j, none⟩ = some (.iface 161 (.pointer (some (s j))))) := hcell
  clear hcell d0 d1 d2 d3 d4 d5 d6 d7 d8 d9 d10
  go_loop [3, 29] (fun a t => a = .int .i64 (-1) ∧ ∃ j : Nat, j ≤ 11 ∧ t = .int .i64 j) (fun _ t => 11 - (intOf t).toNat)
  case atStart => exact ⟨rfl, 0, Nat.zero_le _, rfl⟩
  case round =>
    obtain ⟨rfl, j, hj, rfl⟩ := hrel
    by_cases hjk : j < 11
    · have hc := HC.out j hjk
      unfold sentArr at hc
      go_wp2_with fail
      refine (is_other x (s j) _ _ _ _ _ (hN.out j hjk) RX.out (R.out j hjk).choose_spec.choose_spec).mono ?_
      rintro e w' ⟨rfl, rfl⟩
      go_wp2_with fail
      go_round
      case rel => exact ⟨rfl, j + 1, by omega, by go_num⟩
      case measure => simp [intOf]; omega
    · obtain rfl : j = 11 := by omega
      go_wp2_with fail
      go_ret2
      exact ⟨rfl, HB.out.alloc HB.out.size _⟩
set_option maxHeartbeats 1000000 in
/-- an *api.Fault that wraps sentinel k. -/
theorem code_fault (k : Nat) (hk : k < 11) (pb po : Nat) (n : Int) (s : Nat → Addr) (w : World) (S : Sents w s) (hA : w.cell? ⟨pb, po, none⟩ = some (.int .i64 n)) (hE : w.cell? ⟨pb, po + 1, none⟩ = some (.iface 161 (.pointer (some (s k))))) :
    Calls Tryz.prog 19 #[.iface 60 (.pointer (some ⟨pb, po, none⟩))] w fun e w' => e = .returned (.tuple #[.int .i64 ((k : Int) + 1), .int .i64 n]) ∧ Below w.heap.size w w' := by
  have hS : Hid (Sents w s) := S
  clear S
  have HA : Hid (w.cell? ⟨pb, po, none⟩ = some (.int .i64 n)) := hA
  have HE : Hid (w.cell? ⟨pb, po + 1, none⟩ = some (.iface 161 (.pointer (some (s k))))) := hE
  clear hA hE
  go_enter Tryz.func19, Tryz.ntmps19
  go_wp2_with fail
  refine (as_hitB w.heap.size _ _ (.pointer none) _ ?_ (by simp) (by simp) (by simp) (by simp)).mono ?_
  · exact (hS.out.below ((Below.refl _ _).alloc (Nat.le_refl _) _)).et
  rintro e w1 ⟨rfl, hb, ht⟩
  have HB : Hid (Below w.heap.size w w1) := ((Below.refl _ _).alloc (Nat.le_refl _) _).trans hb
  have S1 : Sents w1 s := hS.out.below HB.out
  have eA : w1.cell? ⟨pb, po, none⟩ = some (.int .i64 n) := below_keeps HB.out HA.out
  have d0 := S1.c0
  have d1 := S1.c1
  have d2 := S1.c2
  have d3 := S1.c3
  have d4 := S1.c4
  have d5 := S1.c5
  have d6 := S1.c6
  have d7 := S1.c7
  have d8 := S1.c8
  have d9 := S1.c9
  have d10 := S1.c10
  have hS1 : Hid (Sents w1 s) := S1
  have FE : Hid ((w1.alloc (.cells (sentArr s) 25)).cell? ⟨pb, po + 1, none⟩ = some (.iface 161 (.pointer (some (s k))))) := below_keeps (HB.out.alloc HB.out.size (.cells (sentArr s) 25)) HE.out
  have R : Hid (∀ i, i < 11 → ∃ c t, (w1.alloc (.cells (sentArr s) 25)).heap[(s i).block]? = some (.cells c t (0, 0))) := (S1.below ((Below.refl _ _).alloc (Nat.le_refl _) _)).row
  clear S1 hb
  go_wp2_with fail
  have hcell : ∀ j : Nat, j < 11 → (w1.alloc (.cells (sentArr s) 25)).cell? ⟨w1.heap.size, j, none⟩ = some (.iface 161 (.pointer (some (s j)))) := sent_cell s w1
  have HC : Hid (∀ j : Nat, j < 11 → (w1.alloc (.cells (sentArr s) 25)).cell? ⟨w1.heap.size, j, none⟩ = some (.iface 161 (.pointer (some (s j))))) := hcell
  clear hcell eA ht d0 d1 d2 d3 d4 d5 d6 d7 d8 d9 d10
  go_loop [3, 29] (fun a t => a = .int .i64 n ∧ ∃ j : Nat, j ≤ k ∧ t = .int .i64 j) (fun _ t => 11 - (intOf t).toNat)
  case atStart => exact ⟨rfl, 0, Nat.zero_le _, rfl⟩
  case round =>
    obtain ⟨rfl, j, hj, rfl⟩ := hrel
    have hj11 : j < 11 := by omega
    have hc := HC.out j hj11
    unfold sentArr at hc
    by_cases hjk : j < k
    · go_wp2_with fail
      refine (is_fault_other pb po (s j) (s k) _ _ _ _ _ FE.out (hS1.out.ne k j hk hj11 (by omega)) (R.out k hk).choose_spec.choose_spec (R.out j hj11).choose_spec.choose_spec).mono ?_
      rintro e w' ⟨rfl, rfl⟩
      go_wp2_with fail
      go_round
      case rel => exact ⟨rfl, j + 1, by omega, by go_num⟩
      case measure => simp [intOf]; omega
    · obtain rfl : j = k := by omega
      go_wp2_with fail
      refine (is_fault_same pb po (s j) _ FE.out).mono ?_
      rintro e w' ⟨rfl, rfl⟩
      go_wp2_with fail
      go_ret2
      exact ⟨rfl, HB.out.alloc HB.out.size _⟩
end Go.Proofs.YtpmoamfhppmicaaGreatDoor
