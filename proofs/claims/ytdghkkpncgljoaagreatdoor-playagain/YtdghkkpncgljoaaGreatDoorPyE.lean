/-
  Package play's Run.
-/
import Derived.Test.YtdghkkpncgljoaaGreatDoorPyD
import Derived.Laws.MakeOwn
namespace Go.Proofs.YtdghkkpncgljoaaGreatDoor
open Go.RowKit

/-- what becomes of a world by a script, and what is answered. -/
def runW (W : Wo) (l : List Int) : Wo := l.foldl stW W
def runA : Wo → List Int → List Int
  | _, [] => []
  | W, v :: l => stA W v :: runA (stW W v) l
theorem runW_snoc (W : Wo) (l : List Int) (v : Int) : runW W (l ++ [v]) = stW (runW W l) v := by unfold runW; rw [List.foldl_append]; rfl
theorem runW_append (W : Wo) (l m : List Int) : runW W (l ++ m) = runW (runW W l) m := by unfold runW; rw [List.foldl_append]
theorem runA_append : ∀ (W : Wo) (l m : List Int), runA W (l ++ m) = runA W l ++ runA (runW W l) m
  | _, [], _ => rfl
  | W, v :: l, m => by
    show stA W v :: runA (stW W v) (l ++ m) = stA W v :: (runA (stW W v) l ++ runA (runW (stW W v) l) m)
    rw [runA_append (stW W v) l m]
theorem runA_len : ∀ (W : Wo) (l : List Int), (runA W l).length = l.length
  | _, [] => rfl
  | W, v :: l => by show (runA (stW W v) l).length + 1 = l.length + 1; rw [runA_len]
theorem runA_snoc (W : Wo) (l : List Int) (v : Int) : runA W (l ++ [v]) = runA W l ++ [stA (runW W l) v] := by rw [runA_append]; rfl
/-- numbers in memory that nobody writes. -/
def RdI (w0 w : World) (K : WK) (p : Option Addr) (xs : List Int) : Prop := ∀ (j : Nat) x, xs[j]? = some x → ∃ b o, p = some ⟨b, o, none⟩ ∧ w.cell? ⟨b, o + j, none⟩ = some (.int .i64 x) ∧ x ≤ 9223372036854775807 ∧ (b < w0.heap.size ∨ K.tag b = 9)
theorem RdI.mv {w0 w w' : World} {K K' : WK} {p : Option Addr} {xs : List Int} (h : RdI w0 w K p xs) (b : Below w0.heap.size w0 w) (b' : Below w0.heap.size w0 w') (m : Mv K K' w w') : RdI w0 w' K' p xs := fun j x hx => by
  obtain ⟨g, o, e, c, hm, hq⟩ := h j x hx
  have hg : g < w.heap.size := tlt c
  refine ⟨g, o, e, ?_, hm, ?_⟩
  · rw [World.cell?_of_block (w := w) (w' := w')]
    · exact c
    · show w'.heap[g]? = w.heap[g]?
      rcases hq with q | q
      · rw [b'.block g q, b.block g q]
      · exact m.block g hg (.inl q)
  · rcases hq with q | q
    · exact .inl q
    · exact .inr (by rw [m.tag g hg]; exact q)
/-- answers so far, in a block of so many. -/
def ansA (L : List Int) (n : Nat) : Array Value := (L.map (fun x => Value.int .i64 x) ++ List.replicate (n - L.length) (Value.int .i64 0)).toArray
def AnsB (w : World) (Z : Nat) (L : List Int) (n : Nat) : Prop := w.heap[Z]? = some (.cells (ansA L n) 3 (0, 0))
theorem AnsB.lt {w : World} {Z n : Nat} {L : List Int} (h : AnsB w Z L n) : Z < w.heap.size := by
  rcases Nat.lt_or_ge Z w.heap.size with a | a
  · exact a
  · unfold AnsB at h; rw [Array.getElem?_eq_none a] at h; cases h
theorem ansA_set (L : List Int) (n : Nat) (v : Int) (h : L.length < n) : (ansA L n).setIfInBounds L.length (.int .i64 v) = ansA (L ++ [v]) n := by
  unfold ansA
  rw [List.setIfInBounds_toArray, List.set_append, if_neg (by simp)]
  simp only [List.length_map, Nat.sub_self, List.map_append, List.length_append, List.append_assoc]
  have : List.replicate (n - L.length) (Value.int .i64 0) = Value.int .i64 0 :: List.replicate (n - (L.length + 1)) (Value.int .i64 0) := by
    rw [show n - L.length = (n - (L.length + 1)) + 1 by omega]
    rfl
  rw [this]
  rfl
theorem AnsB.put {w : World} {Z n : Nat} {L : List Int} (h : AnsB w Z L n) (v : Int) (hl : L.length < n) : AnsB (w.setCell ⟨Z, L.length, none⟩ (.int .i64 v)) Z (L ++ [v]) n := by
  unfold AnsB
  rw [heap_setCell_same w Z L.length _ _ (.int .i64 v) h, ansA_set L n v hl]
theorem AnsB.cell {w : World} {Z n : Nat} {L : List Int} (h : AnsB w Z L n) (hl : L.length < n) : w.cell? ⟨Z, L.length, none⟩ = some (.int .i64 0) := by
  rw [cell_of_row w Z _ _ _ _ h]
  unfold ansA
  rw [List.getElem?_toArray, List.getElem?_append_right (by simp), List.length_map, Nat.sub_self, List.getElem?_replicate, if_pos (by omega)]
theorem Tryz.infoPy : (Tryz.prog.info? 3).map (fun i => (i.zero, i.size, i.bytes)) = some (some (.int .i64 0), 1, 8) := by kernel_rfl
theorem make_n (w : World) (n : Nat) (hn : n ≤ 3000) : (Instr.makeSlice 23 (.int .i64 n) (.int .i64 n)).run Tryz.prog w = .ok (.slice (some ⟨w.heap.size, 0, none⟩) n n) (w.alloc (.cells (ansA [] n) 3)) := by
  obtain ⟨i0, hi, hz0, hz1, hz2⟩ := info_parts Tryz.infoPy
  have h := run_makeSlice (P := Tryz.prog) w 23 3 i0 (.int .i64 0) Tryz.underlying23 hi hz0 .i64 .i64 n n (by omega) (by omega) (by rw [hz1]; omega) (by rw [hz2]; omega) (by omega)
  have e : madeCells (Value.cells (.int .i64 0)) (Int.toNat (n : Int) * i0.size) = ansA [] n := by
    rw [hz1]
    apply Array.ext_getElem?
    intro j
    unfold ansA madeCells
    by_cases hj : j < n
    · simp only [Int.toNat_natCast, Nat.mul_one, List.map_nil, List.nil_append, List.length_nil, Nat.sub_zero]
      have e1 : (Value.int .i64 0).cells[j % (Value.int .i64 0).cells.size]! = Value.int .i64 0 := by
        show (#[Value.int .i64 0])[j % 1]! = Value.int .i64 0
        rw [Nat.mod_one]
        rfl
      simp [hj, e1]
    · simp [hj]
  rw [e, Int.toNat_natCast] at h
  exact h
set_option maxRecDepth 100000 in
set_option maxHeartbeats 2000000 in
theorem run_wd {w0 w : World} {K : WK} {W : Wo} {t i : Nat} {s : Nat → Addr} (S : Sents w0 s) (F : PyF w0) (h : Wd w0 w K W t) (hI : In i W) (xs : List Int) (hn : xs.length ≤ 3000) (hi : i + 10 * xs.length ≤ 90000) (ht : t + 10 * xs.length ≤ 2600) (hy : ∀ j, j < 2 → ∃ b, K.yk j = some b) (p : Option Addr) (cap : Nat) (hcap : xs.length ≤ cap) (hr : RdI w0 w K p xs) :
    Calls Tryz.prog 8 #[.pointer (some ⟨K.wb, 0, none⟩), .slice p xs.length cap] w fun e w' => ∃ Z, e = .returned (.slice (some ⟨Z, 0, none⟩) xs.length xs.length) ∧ w.heap.size ≤ Z ∧ AnsB w' Z (runA W xs) xs.length ∧ In (i + 10 * xs.length) (runW W xs) ∧ ∃ K', Wd w0 w' K' (runW W xs) (t + 10 * xs.length) ∧ Mv K K' w w' ∧ K'.tag Z = 9 := by
  have HS : Hid (Sents w0 s) := S
  have HF : Hid (PyF w0) := F
  have HW : Hid (Wd w0 w K W t) := h
  have HI : Hid (In i W ∧ i + 10 * xs.length ≤ 90000 ∧ t + 10 * xs.length ≤ 2600) := ⟨hI, hi, ht⟩
  have HY : Hid (∀ j, j < 2 → ∃ b, K.yk j = some b) := hy
  have HR : Hid (RdI w0 w K p xs) := hr
  have hmk := make_n w xs.length hn
  have n1 : (xs.length : Int) ≤ 3000 := by omega
  have n2 : (xs.length : Int) ≤ (cap : Int) := by omega
  have n3 : (0 : Int) ≤ (xs.length : Int) := by omega
  clear S F h hI hi ht hy hr
  go_enter Tryz.func8, Tryz.ntmps8
  go_wp2_with fail
  have Z0 : Hid (AnsB (w.alloc (.cells (ansA [] xs.length) 3)) w.heap.size [] xs.length) := heap_alloc_new w _
  have W0 : Hid (Wd w0 (w.alloc (.cells (ansA [] xs.length) 3)) K W t ∧ Mv K K w (w.alloc (.cells (ansA [] xs.length) 3)) ∧ K.tag w.heap.size = 9 ∧ w0.heap.size ≤ w.heap.size) := ⟨HW.out.below (aB _ _), Mv.of (aB _ _), HW.out.al _ (Nat.le_refl _), HW.out.bl.size⟩
  clear hmk
  generalize w.alloc (.cells (ansA [] xs.length) 3) = w2 at *
  obtain ⟨Z, hZe⟩ : ∃ Z, Z = w.heap.size := ⟨_, rfl⟩
  have HZE : Hid (w.heap.size ≤ Z) := (by omega : w.heap.size ≤ Z)
  rw [← hZe] at Z0 W0 ⊢
  clear hZe
  go_loopw [7, 8, 19] (fun _ _ tv u => ∃ k : Nat, k ≤ xs.length ∧ tv = .int .i64 k ∧ AnsB u Z (runA W (xs.take k)) xs.length ∧ In (i + 10 * k) (runW W (xs.take k)) ∧ ∃ K', Wd w0 u K' (runW W (xs.take k)) (t + 10 * k) ∧ Mv K K' w u ∧ K'.tag Z = 9) (fun _ _ tv _ => xs.length - (intOf tv).toNat)
  case atStart => exact ⟨0, by omega, rfl, Z0.out, HI.out.1, K, W0.out.1, W0.out.2.1, W0.out.2.2.1⟩
  case round =>
    obtain ⟨k, hk, rfl, za, hIk, K', wd, mv, ht9⟩ := hrel
    have ZK : Hid (AnsB wr Z (runA W (xs.take k)) xs.length) := za
    have WK : Hid (Wd w0 wr K' (runW W (xs.take k)) (t + 10 * k) ∧ In (i + 10 * k) (runW W (xs.take k)) ∧ Mv K K' w wr ∧ K'.tag Z = 9) := ⟨wd, hIk, mv, ht9⟩
    have HW0 : Hid (w0.heap.size ≤ Z) := W0.out.2.2.2
    clear za wd hIk mv ht9 Z0
    by_cases hlt : k < xs.length
    · have k0 : (0 : Int) ≤ (k : Int) := by omega
      have k1 : (k : Int) < (xs.length : Int) := by omega
      obtain ⟨x, hx⟩ : ∃ x, xs[k]? = some x := ⟨xs[k], List.getElem?_eq_getElem hlt⟩
      obtain ⟨b, o, rfl, cx, hxm, _⟩ := (HR.out.mv HW.out.bl WK.out.1.bl WK.out.2.2.1) k x hx
      have HLT : Hid (k < xs.length) := hlt
      have HTK : Hid (xs.take (k + 1) = xs.take k ++ [x]) := by
        show xs.take (k + 1) = _
        rw [List.take_add_one, hx]
        rfl
      have hlen : (runA W (xs.take k)).length = k := by rw [runA_len, List.length_take]; omega
      have HLN : Hid ((runA W (xs.take k)).length = k) := hlen
      have HXM : Hid (x ≤ 9223372036854775807) := hxm
      clear hx hxm hlen
      go_wp2_with fail
      have hst := pstep_any HS.out HF.out WK.out.1 WK.out.2.1 (by have := HI.out; have := HLT.out; omega) (by have := HI.out; have := HLT.out; omega) (fun j hj => by rw [WK.out.2.2.1.yk]; exact HY.out j hj) x HXM.out
      rw [WK.out.2.2.1.wb] at hst
      refine hst.mono ?_
      clear hst
      rintro e w3 ⟨rfl, K3, wd3, m3⟩
      have hZl : Z < wr.heap.size := ZK.out.lt
      have Z3 : Hid (AnsB w3 Z (runA W (xs.take k)) xs.length) := by show w3.heap[Z]? = _; rw [m3.block Z hZl (.inl WK.out.2.2.2)]; exact ZK.out
      have W3 : Hid (Wd w0 w3 K3 (runW W (xs.take (k + 1))) (t + 10 * (k + 1)) ∧ In (i + 10 * (k + 1)) (runW W (xs.take (k + 1))) ∧ Mv K K3 w w3 ∧ K3.tag Z = 9) := by
        rw [HTK.out, runW_snoc]
        exact ⟨wd3, WK.out.2.1.stW (by have := HI.out; have := HLT.out; omega) WK.out.1.ro x, WK.out.2.2.1.trans m3, by rw [m3.tag Z hZl]; exact WK.out.2.2.2⟩
      have HST : Hid (∃ a, a = stA (runW W (xs.take k)) x) := ⟨_, rfl⟩
      have cz := Z3.out.cell (by rw [HLN.out]; exact HLT.out)
      have fz : w3.frozen? ⟨Z, k, none⟩ = false := frozen_of_row _ _ _ _ _ Z3.out
      rw [HLN.out] at cz
      have Z4 : Hid (AnsB (w3.setCell ⟨Z, k, none⟩ (.int .i64 (stA (runW W (xs.take k)) x))) Z (runA W (xs.take (k + 1))) xs.length) := by
        have := Z3.out.put (stA (runW W (xs.take k)) x) (by rw [HLN.out]; exact HLT.out)
        rw [HLN.out] at this
        rw [HTK.out, runA_snoc]
        exact this
      have g4 : Chg Z w3 (w3.setCell ⟨Z, k, none⟩ (.int .i64 (stA (runW W (xs.take k)) x))) := Chg.set _ _ _ _
      have W4 : Hid (Wd w0 (w3.setCell ⟨Z, k, none⟩ (.int .i64 (stA (runW W (xs.take k)) x))) K3 (runW W (xs.take (k + 1))) (t + 10 * (k + 1)) ∧ In (i + 10 * (k + 1)) (runW W (xs.take (k + 1))) ∧ Mv K K3 w (w3.setCell ⟨Z, k, none⟩ (.int .i64 (stA (runW W (xs.take k)) x))) ∧ K3.tag Z = 9) := ⟨W3.out.1.fresh W3.out.2.2.2 HW0.out g4, W3.out.2.1, W3.out.2.2.1.loc g4 HZE.out, W3.out.2.2.2⟩
      clear wd3 m3 Z3 W3 g4 HST cx ZK WK hZl
      generalize stA (runW W (xs.take k)) x = a at *
      go_wp2_with fail
      exact ⟨⟨k + 1, by omega, by go_num, Z4.out, W4.out.2.1, K3, W4.out.1, W4.out.2.2.1, W4.out.2.2.2⟩, by simp [intOf]; omega⟩
    · obtain rfl : k = xs.length := by omega
      have HT : Hid (xs.take xs.length = xs) := List.take_length
      rw [HT.out] at ZK WK
      go_wp2_with fail
      go_ret
      exact ⟨Z, rfl, HZE.out, ZK.out, WK.out.2.1, K', WK.out.1, WK.out.2.2.1, WK.out.2.2.2⟩
end Go.Proofs.YtdghkkpncgljoaaGreatDoor
