/-
  Package mirror's Flows.
-/
import Derived.Test.YthmnmdikpccenacDoorMiB
import Derived.OwnWalk
namespace Go.Proofs.YthmnmdikpccenacDoor
open Go.RowKit

/-- the flows of the first n slots. -/
def flL (T : Tb) : Nat → List Ce
  | 0 => []
  | n + 1 => if (T n).pr = 0 then flL T n else flL T n ++ [T n]
theorem flL_len (T : Tb) : ∀ n, (flL T n).length ≤ n
  | 0 => Nat.le_refl _
  | n + 1 => by
    have := flL_len T n
    unfold flL
    split
    · omega
    · simp; omega
theorem flL_no {T : Tb} {n : Nat} (h : (T n).pr = 0) : flL T (n + 1) = flL T n := by rw [flL, if_pos h]
theorem flL_yes {T : Tb} {n : Nat} (h : (T n).pr ≠ 0) : flL T (n + 1) = flL T n ++ [T n] := by rw [flL, if_neg h]
/-- a flow's cells. -/
def flC (c : Ce) : List Value := [.int .i64 c.pr, .int .i64 c.ia, .int .i64 c.ip, .int .i64 c.fa, .int .i64 c.fp, .int .i64 c.po, .int .i64 c.st, .int .i64 c.un]
def flCs : List Ce → List Value
  | [] => []
  | c :: r => flC c ++ flCs r
theorem flCs_add : ∀ (xs : List Ce) (c : Ce), flCs (xs ++ [c]) = flCs xs ++ flC c
  | [], c => by simp [flCs]
  | a :: r, c => by simp [flCs, flCs_add r c]
theorem flCs_len : ∀ (xs : List Ce), (flCs xs).length = xs.length * 8
  | [] => rfl
  | a :: r => by simp [flCs, flCs_len r, flC]; omega
theorem flCs_at : ∀ (xs : List Ce) (i k : Nat) (c : Ce) (u : Value), xs[i]? = some c → (flC c)[k]? = some u → (flCs xs)[i * 8 + k]? = some u
  | [], i, k, c, u, h, _ => by simp at h
  | a :: r, 0, k, c, u, h, hk => by
    simp at h
    subst h
    have : k < (flC a).length := (List.getElem?_eq_some_iff.1 hk).1
    simp only [flCs]
    rw [List.getElem?_append_left (by omega), Nat.zero_mul, Nat.zero_add]
    exact hk
  | a :: r, i + 1, k, c, u, h, hk => by
    have hl : (flC a).length = 8 := rfl
    simp only [flCs]
    rw [List.getElem?_append_right (by omega), hl, show (i + 1) * 8 + k - 8 = i * 8 + k from by omega]
    exact flCs_at r i k c u (by simpa using h) hk
theorem Tryd.infoFlow : (Tryd.prog.info? 47).map (fun i => (i.zero, i.size, i.bytes)) = some (some (.agg #[.int .i64 0, .int .i64 0, .int .i64 0, .int .i64 0, .int .i64 0, .int .i64 0, .int .i64 0, .int .i64 0]), 8, 64) := by kernel_rfl
set_option maxRecDepth 100000 in
set_option maxHeartbeats 4000000 in
theorem mflows_any (b : Nat) (life : Int) (T : Tb) (w : World) (M : Mir w b life T) :
    Calls Tryd.prog 55 #[.pointer (some ⟨b, 0, none⟩)] w fun e w' => (∃ v, e = .returned v ∧ w'.ownsRow w.heap.size 47 8 v (flL T 32).length (flCs (flL T 32))) ∧ Below w.heap.size w w' := by
  obtain ⟨i0, hi, hz0, hz1, hz2⟩ := info_parts Tryd.infoFlow
  have hld := mir_load M
  have hix := fun (i : Nat) (hi : i < 32) (w : World) => arr_index T i hi w
  obtain ⟨ar, har⟩ : ∃ ar, ar = slotsArr T := ⟨_, rfl⟩
  rw [← har] at hld
  have HIX : Hid (∀ (i : Nat), i < 32 → ∀ (w : World), (Instr.index 86 (.agg ar) (.int .i64 i)).run Tryd.prog w = .ok (cellV i (T i)) w) := by
    show ∀ (i : Nat), _
    rw [har]; exact hix
  clear M har hix
  go_enter Tryd.func55, Tryd.ntmps55
  go_wp2_with (refine wpList_load_at rfl 86 _ rfl _ _ rfl hld ?_)
  clear hld
  go_loopw [3, 5, 10] (fun v _ t wr => ∃ j : Nat, j ≤ 32 ∧ t = .int .i64 j ∧ wr.ownsRow w.heap.size 47 8 v (flL T j).length (flCs (flL T j)) ∧ Below w.heap.size w wr) (fun _ _ t _ => 32 - (intOf t).toNat)
  case atStart => exact ⟨0, by omega, rfl, World.ownsRow_nil _ _ _ _, Below.refl _ _⟩
  case round =>
    obtain ⟨j, hj, rfl, hown, hbr⟩ := hrel
    have HO : Hid (wr.ownsRow w.heap.size 47 8 u3 (flL T j).length (flCs (flL T j))) := hown
    have HB : Hid (Below w.heap.size w wr) := hbr
    clear hown hbr
    by_cases hlt : j < 32
    · have hix := HIX.out j hlt
      obtain ⟨c, hc⟩ : ∃ c, c = T j := ⟨_, rfl⟩
      have HC : Hid (c = T j) := hc
      rw [← hc] at hix
      simp only [cellV] at hix
      clear hc
      have hle := flL_len T j
      by_cases hp : c.pr = 0
      · have HN : Hid (flL T (j + 1) = flL T j) := flL_no (by rw [← HC.out]; exact hp)
        go_wp2_with fail
        go_roundw
        case rel => exact ⟨j + 1, by omega, by go_num, by rw [HN.out]; exact HO.out.alloc _, HB.out.alloc HB.out.size _⟩
        case measure => simp [intOf]; omega
      · have HN : Hid (flL T (j + 1) = flL T j ++ [c]) := by show _ = _; rw [flL_yes (by rw [← HC.out]; exact hp), HC.out]
        have N1 : Hid (∀ u ∈ flC c, u.oneCell' = true) := fun u hu => by
          simp only [flC, List.mem_cons, List.not_mem_nil, or_false] at hu
          rcases hu with rfl | rfl | rfl | rfl | rfl | rfl | rfl | rfl <;> rfl
        go_wp2_with (at_builtin; refine wpList_append_own _ rfl _ _ 118 rfl w.heap.size 47 i0 _ 8 64 Tryd.underlying118 hi hz0 hz1 hz2 rfl (by decide) u3 (flL T j).length (flCs (flL T j)) rfl ((HO.out.alloc _).alloc _) ⟨wr.heap.size + 1, 0, none⟩ 1 1 (flC c) rfl rfl ?c1 N1.out ?c3 ?c4 ?c5 ?_)
        case c1 =>
          intro q u hu
          rw [tadd, Nat.zero_add, cell_of_row _ _ _ _ _ _ (heap_alloc2_new wr _ _)]
          simpa [flC] using hu
        case c3 => unfold maxLen; omega
        case c4 => omega
        case c5 => have := HB.out.size; simp; omega
        intro v5 w5 hO5 hg5 _
        have O5 : Hid (w5.ownsRow w.heap.size 47 8 v5 (flL T (j + 1)).length (flCs (flL T (j + 1)))) := by
          show w5.ownsRow _ _ _ _ _ _
          rw [HN.out, List.length_append, flCs_add]
          exact hO5
        have B5 : Hid (Below w.heap.size w w5) := ((HB.out.alloc HB.out.size _).alloc (by have := HB.out.size; simp; omega) _).grown hg5 (by have := HB.out.size; simp; omega) (fun q hq => (HO.out.lt _ hq).1)
        clear hO5 hg5 N1
        go_wp2_with fail
        go_roundw
        case rel => exact ⟨j + 1, by omega, by go_num, O5.out, B5.out⟩
        case measure => simp [intOf]; omega
    · obtain rfl : j = 32 := by omega
      go_wp2_with fail
      go_ret
      exact ⟨⟨_, rfl, HO.out⟩, HB.out⟩
end Go.Proofs.YthmnmdikpccenacDoor
