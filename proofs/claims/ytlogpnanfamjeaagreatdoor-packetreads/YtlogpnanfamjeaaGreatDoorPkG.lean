/-
  Package packet's flagsText.
-/
import Derived.Test.YtlogpnanfamjeaaGreatDoorPkT
namespace Go.Proofs.YtlogpnanfamjeaaGreatDoor
open Go.RowKit

abbrev nmA : Array Value := #[.string ⟨#[115, 121, 110]⟩, .string ⟨#[97, 99, 107]⟩, .string ⟨#[102, 105, 110]⟩, .string ⟨#[114, 115, 116]⟩]
def nm (k : Nat) : ByteArray := [(⟨#[115, 121, 110]⟩ : ByteArray), ⟨#[97, 99, 107]⟩, ⟨#[102, 105, 110]⟩, ⟨#[114, 115, 116]⟩].getD k ⟨#[]⟩
/-- the table of the flags' names lies as laid. -/
def Nms (w : World) : Prop := w.cell? ⟨3, 0, none⟩ = some (.string ⟨#[115, 121, 110]⟩) ∧ w.cell? ⟨3, 1, none⟩ = some (.string ⟨#[97, 99, 107]⟩) ∧ w.cell? ⟨3, 2, none⟩ = some (.string ⟨#[102, 105, 110]⟩) ∧ w.cell? ⟨3, 3, none⟩ = some (.string ⟨#[114, 115, 116]⟩)
theorem Nms.below {w w' : World} (T : Nms w) (h : Below w.heap.size w w') : Nms w' := ⟨below_keeps h T.1, below_keeps h T.2.1, below_keeps h T.2.2.1, below_keeps h T.2.2.2⟩
theorem Tryz.idxN0 (w : World) : (Instr.index 66 (.agg nmA) (.int .i64 0)).run Tryz.prog w = .ok (.string (nm 0)) w := by kernel_rfl
theorem Tryz.idxN1 (w : World) : (Instr.index 66 (.agg nmA) (.int .i64 1)).run Tryz.prog w = .ok (.string (nm 1)) w := by kernel_rfl
theorem Tryz.idxN2 (w : World) : (Instr.index 66 (.agg nmA) (.int .i64 2)).run Tryz.prog w = .ok (.string (nm 2)) w := by kernel_rfl
theorem Tryz.idxN3 (w : World) : (Instr.index 66 (.agg nmA) (.int .i64 3)).run Tryz.prog w = .ok (.string (nm 3)) w := by kernel_rfl
theorem Tryz.idxN (k : Nat) (h : k < 4) (w : World) : (Instr.index 66 (.agg nmA) (.int .i64 k)).run Tryz.prog w = .ok (.string (nm k)) w := by
  match k, h with
  | 0, _ => exact Tryz.idxN0 w
  | 1, _ => exact Tryz.idxN1 w
  | 2, _ => exact Tryz.idxN2 w
  | 3, _ => exact Tryz.idxN3 w

theorem Tryz.infoS : (Tryz.prog.info? 9).map (fun i => (i.zero, i.size, i.bytes)) = some (some (.string ByteArray.empty), 1, 16) := by kernel_rfl
/-- is flag k set? -/
def fb (fl : Int) (k : Nat) : Bool := fl / 2 ^ k % 2 == 1
theorem fb_and (fl : Int) (h0 : 0 ≤ fl) (h1 : fl ≤ 15) (k : Nat) (hk : k < 4) : (bits BinOp.and IntKind.i64 fl (wrap64 (2 ^ k)) != 0) = fb fl k := by
  have h : ∀ (a : Fin 16) (b : Fin 4), (bits BinOp.and IntKind.i64 (a.val : Int) (wrap64 (2 ^ b.val)) != 0) = fb (a.val : Int) b.val := by decide +kernel
  obtain ⟨n, rfl⟩ := Int.eq_ofNat_of_zero_le h0
  exact h ⟨n, by omega⟩ ⟨k, hk⟩
def nmsTo (fl : Int) : Nat → List ByteArray
  | 0 => []
  | k + 1 => if fb fl k then nmsTo fl k ++ [nm k] else nmsTo fl k
theorem nmsTo_len (fl : Int) : ∀ k, (nmsTo fl k).length ≤ k
  | 0 => Nat.le_refl _
  | k + 1 => by
    have := nmsTo_len fl k
    unfold nmsTo
    split <;> simp <;> omega
/-- the flags' text. -/
def fText (fl : Int) : List UInt8 := if nmsTo fl 4 = [] then [45] else Lib.join ((nmsTo fl 4).map (·.data.toList)) [43]
theorem fText_len (fl : Int) (h0 : 0 ≤ fl) (h1 : fl ≤ 15) : (fText fl).length ≤ 20 := by
  have h : ∀ (a : Fin 16), (fText (a.val : Int)).length ≤ 20 := by decide +kernel
  obtain ⟨n, rfl⟩ := Int.eq_ofNat_of_zero_le h0
  exact h ⟨n, by omega⟩
theorem fJoin_len (fl : Int) (h0 : 0 ≤ fl) (h1 : fl ≤ 15) : (Lib.join ((nmsTo fl 4).map (·.data.toList)) [43]).length ≤ 20 := by
  have h : ∀ (a : Fin 16), (Lib.join ((nmsTo (a.val : Int) 4).map (·.data.toList)) [43]).length ≤ 20 := by decide +kernel
  obtain ⟨n, rfl⟩ := Int.eq_ofNat_of_zero_le h0
  exact h ⟨n, by omega⟩
theorem rel_hit {w wr w1 : World} {v v' : Value} {fl : Int} {k : Nat} (hf : fb fl k = true) (hown : wr.ownsRow w.heap.size 9 1 v (nmsTo fl k).length ((nmsTo fl k).map Value.string)) (hb : Below w.heap.size w wr)
    (o' : w1.ownsRow w.heap.size 9 1 v' ((nmsTo fl k).length + 1) ((nmsTo fl k).map Value.string ++ [.string (nm k)])) (hg : (wr.alloc (.cells #[.string (nm k)] 9)).grownBy w1 v.ownBlock) :
    w1.ownsRow w.heap.size 9 1 v' (nmsTo fl (k + 1)).length ((nmsTo fl (k + 1)).map Value.string) ∧ Below w.heap.size w w1 := by
  refine ⟨?_, (hb.alloc hb.size _).grown hg (by have := hb.size; simp; omega) (fun j hj => (hown.lt _ hj).1)⟩
  have e : nmsTo fl (k + 1) = nmsTo fl k ++ [nm k] := by simp [nmsTo, hf]
  rw [e]; simpa using o'
set_option maxRecDepth 100000 in
set_option maxHeartbeats 4000000 in
theorem flagsText_any (fl : Int) (h0 : 0 ≤ fl) (h1 : fl ≤ 15) (w : World) (T : Nms w) :
    Calls Tryz.prog 21 #[.int .i64 fl] w fun e w' => e = .returned (.string ⟨(fText fl).toArray⟩) ∧ Below w.heap.size w w' := by
  obtain ⟨t0, t1, t2, t3⟩ := T
  obtain ⟨i0, hi, hz0, hz1, hz2⟩ := info_parts Tryz.infoS
  go_enter Tryz.func21, Tryz.ntmps21
  go_wp2_with fail
  clear t0 t1 t2 t3
  go_loopw [3, 7] (fun v t wr => ∃ k : Nat, k ≤ 4 ∧ t = .int .i64 k ∧ wr.ownsRow w.heap.size 9 1 v (nmsTo fl k).length ((nmsTo fl k).map Value.string) ∧ Below w.heap.size w wr) (fun _ t _ => 4 - (intOf t).toNat)
  case atStart => exact ⟨0, by omega, rfl, World.ownsRow_nil _ _ _ _, Below.refl _ _⟩
  case round =>
    obtain ⟨k, hk, rfl, hown, hb⟩ := hrel
    by_cases hlt : k < 4
    · have ix := Tryz.idxN k hlt
      have hbit := fb_and fl h0 h1 k hlt
      have hl := nmsTo_len fl k
      cases hf : fb fl k
      · rw [hf] at hbit
        have e : nmsTo fl (k + 1) = nmsTo fl k := by simp [nmsTo, hf]
        have HO : Hid (wr.ownsRow w.heap.size 9 1 u3 (nmsTo fl (k + 1)).length ((nmsTo fl (k + 1)).map Value.string)) := by rw [e]; exact hown
        have HB : Hid (Below w.heap.size w wr) := hb
        clear hown hb e hf
        go_wp2_with fail
        go_roundw
        case rel => exact ⟨k + 1, by omega, by go_num, HO.out, HB.out⟩
        case measure => simp [intOf]; omega
      · rw [hf] at hbit
        have HO : Hid (wr.ownsRow w.heap.size 9 1 u3 (nmsTo fl k).length ((nmsTo fl k).map Value.string)) := hown
        have HB : Hid (Below w.heap.size w wr) := hb
        have HF : Hid (fb fl k = true) := hf
        clear hown hb hf
        go_wp2_with (at_builtin; refine wpList_append_own _ rfl _ _ 62 rfl w.heap.size 9 i0 (.string ByteArray.empty) 1 16 Tryz.underlying62 hi hz0 hz1 hz2 rfl (by decide) _ _ _ rfl (HO.out.alloc _) ⟨wr.heap.size, 0, none⟩ 1 1 [.string (nm k)] rfl rfl ?c1 ?c2 ?c3 ?c4 ?c5 ?_)
        case c1 =>
          intro j u hj
          match j, hj with
          | 0, hj => simp at hj; subst hj; simp [Addr.add]
        case c2 => intro u hu; simp at hu; subst hu; rfl
        case c3 => unfold maxLen; omega
        case c4 => omega
        case c5 => have := HB.out.size; simp; omega
        intro v' w1 hown' hgrow _
        have R := rel_hit HF.out HO.out HB.out hown' hgrow
        have HR : Hid (w1.ownsRow w.heap.size 9 1 v' (nmsTo fl (k + 1)).length ((nmsTo fl (k + 1)).map Value.string) ∧ Below w.heap.size w w1) := R
        clear hown' hgrow R
        go_wp2_with fail
        go_roundw
        case rel => exact ⟨k + 1, by omega, by go_num, HR.out.1, HR.out.2⟩
        case measure => simp [intOf]; omega
    · obtain rfl : k = 4 := by omega
      have HB : Hid (Below w.heap.size w wr) := hb
      have hl := nmsTo_len fl 4
      obtain ⟨hlen, hrow⟩ := hown
      by_cases hz : nmsTo fl 4 = []
      · have e : fText fl = [45] := by unfold fText; rw [if_pos hz]
        have hex : ∃ b c, u3 = .slice b 0 c := by
          rcases hrow with ⟨h, _⟩ | ⟨g, cap, cur, h, _⟩
          · exact ⟨_, _, h⟩
          · exact ⟨_, _, by rw [h, hz]; rfl⟩
        obtain ⟨b, c, hv⟩ := hex
        have HE : Hid (fText fl = [45]) := e
        rw [hv]
        clear hb hlen hrow hz e hv hl
        go_wp2_with fail
        go_ret
        refine ⟨?_, HB.out⟩
        rw [HE.out]
        rfl
      · have e : fText fl = Lib.join ((nmsTo fl 4).map (·.data.toList)) [43] := by unfold fText; rw [if_neg hz]
        have hj := fJoin_len fl h0 h1
        have hpos : 1 ≤ (nmsTo fl 4).length := by
          rcases hn : nmsTo fl 4 with _ | ⟨x, r⟩
          · exact absurd hn hz
          · simp
        rcases hrow with ⟨_, h⟩ | ⟨g, cap, cur, h, hg1, hg2, hg3, hg4, hg5, hg6⟩
        · omega
        have HE : Hid (fText fl = Lib.join ((nmsTo fl 4).map (·.data.toList)) [43]) := e
        have hcells : ∀ (j : Nat) x, (nmsTo fl 4)[j]? = some x → wr.cell? ⟨g, 0 + j, none⟩ = some (.string x) := by
          intro j x hx
          have hjx : ((nmsTo fl 4).map Value.string)[j]? = some (.string x) := by rw [List.getElem?_map, hx]; rfl
          rw [← hg6] at hjx
          rw [Nat.zero_add]
          have hcur : cur[j]? = some (.string x) := by
            rw [List.getElem?_take] at hjx
            split at hjx
            · simpa using hjx
            · cases hjx
          simp [World.cell?, hg2, hcur]
        have HC : Hid (∀ (j : Nat) x, (nmsTo fl 4)[j]? = some x → wr.cell? ⟨g, 0 + j, none⟩ = some (.string x)) := hcells
        have hgl : Hid (g < wr.heap.size) := by
          rcases Nat.lt_or_ge g wr.heap.size with h' | h'
          · exact h'
          · simp [Array.getElem?_eq_none h'] at hg2
        have hcap : (nmsTo fl 4).length ≤ cap := hg3
        rw [h]
        generalize hN : (nmsTo fl 4).length = N at *
        have HN : Hid ((nmsTo fl 4).length = N) := hN
        have hnz : ((N : Int) == 0) = false := beq_eq_false_iff_ne.2 (by omega)
        clear hb hlen hz e h hg1 hg2 hg4 hg5 hg6 hcells hN
        go_wp2_with fail
        have hJ := Tryz.strings_Join g 0 cap (nmsTo fl 4) ⟨#[43]⟩ wr HC.out hgl.out (by have := HN.out; omega) (by have := HN.out; omega) (by show (Lib.join _ [43]).length ≤ _; omega)
        rw [HN.out] at hJ
        refine hJ.mono ?_
        rintro e w2 ⟨rfl, hb2⟩
        have HB2 : Hid (Below w.heap.size w w2) := HB.out.trans (hb2.mono HB.out.size)
        clear hb2
        go_wp2_with fail
        go_ret
        refine ⟨?_, HB2.out⟩
        rw [HE.out]
        rfl
end Go.Proofs.YtlogpnanfamjeaaGreatDoor
