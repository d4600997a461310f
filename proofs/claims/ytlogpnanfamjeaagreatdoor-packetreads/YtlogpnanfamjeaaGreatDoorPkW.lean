/-
  Package packet's Read: what Text makes, just so.
-/
import Derived.Test.YtlogpnanfamjeaaGreatDoorPkQ
namespace Go.Proofs.YtlogpnanfamjeaaGreatDoor
open Go.RowKit

theorem splitB_size (sep : ByteArray) (save : Nat) : ∀ (k : Nat) (s y : ByteArray), y ∈ Lib.splitB sep save k s → y.size ≤ s.size
  | 0, s, y, h => by
    simp [Lib.splitB] at h; subst h; exact Nat.le_refl _
  | k + 1, s, y, h => by
    unfold Lib.splitB at h
    split at h
    · simp at h; subst h; exact Nat.le_refl _
    · rw [List.mem_cons] at h
      rcases h with h | h
      · subst h; rw [ByteArray.size_extract]; omega
      · have := splitB_size sep save k _ y h
        rw [ByteArray.size_extract] at this; omega
theorem words_size {x y : ByteArray} {c : UInt8} (h : y ∈ words x c) : y.size ≤ x.size := splitB_size _ _ _ _ _ h

theorem parse_none (x : ByteArray) (hx : x.size ≤ 1000) (w : World) (L : Libs w) (T : Nms w) (h : parseP x = none) :
    Calls Tryz.prog 25 #[.string x] w fun e w' => e = .returned (.tuple #[pkt 0 0 0 0 0 0, .bool false]) ∧ Below w.heap.size w w' := by
  have hne := block_lt T.1
  have hz : ∀ y, y ∈ words x 32 → y.size ≤ 1000 := fun y hy => Nat.le_trans (words_size hy) hx
  unfold parseP at h
  split at h
  · rename_i a b c hw
    rw [hw] at hz
    split at h
    · rename_i ha; subst ha
      cases hb : pe b.data.toList with
      | none => exact parse_udp_src x hx b c w L hw (hz b (by simp)) hb
      | some s =>
        rw [hb] at h
        cases hc : pe c.data.toList with
        | none => exact parse_udp_dst x hx b c w L hw (hz b (by simp)) s.1 s.2 hb (hz c (by simp)) hc
        | some d => rw [hc] at h; cases h
    · rename_i ha; exact parse_udp_no x hx a b c w L hw ha
  · rename_i a b c f hw
    rw [hw] at hz
    split at h
    · rename_i ha; subst ha
      cases hb : pe b.data.toList with
      | none => exact parse_tcp_src x hx b c f w L hw (hz b (by simp)) hb
      | some s =>
        rw [hb] at h
        cases hc : pe c.data.toList with
        | none => exact parse_tcp_dst x hx b c f w L hw (hz b (by simp)) s.1 s.2 hb (hz c (by simp)) hc
        | some d =>
          rw [hc] at h
          cases hf : pf f with
          | none => exact parse_tcp_bad x hx b c f w L hw (hz b (by simp)) s.1 s.2 hb (hz c (by simp)) d.1 d.2 hc (hz f (by simp)) T hne hf
          | some g => rw [hf] at h; cases h
    · rename_i ha; exact parse_tcp_no x hx a b c f w L hw ha
  · rename_i h3 h4
    refine parse_odd x hx w L ?_ ?_
    · intro e
      rcases hw : words x 32 with _ | ⟨a, _ | ⟨b, _ | ⟨c, _ | ⟨d, r⟩⟩⟩⟩
      all_goals first | (rw [hw] at e; simp at e; done) | exact h3 _ _ _ hw
    · intro e
      rcases hw : words x 32 with _ | ⟨a, _ | ⟨b, _ | ⟨c, _ | ⟨d, _ | ⟨f, r⟩⟩⟩⟩⟩
      all_goals first | (rw [hw] at e; simp at e; done) | exact h4 _ _ _ _ hw
theorem parse_some (x : ByteArray) (hx : x.size ≤ 1000) (w : World) (L : Libs w) (T : Nms w) (pr u v y z fl : Int) (h : parseP x = some (pr, u, v, y, z, fl)) :
    Calls Tryz.prog 25 #[.string x] w fun e w' => e = .returned (.tuple #[pkt pr u v y z fl, .bool true]) ∧ Below w.heap.size w w' := by
  have hne := block_lt T.1
  have hz : ∀ y, y ∈ words x 32 → y.size ≤ 1000 := fun y hy => Nat.le_trans (words_size hy) hx
  unfold parseP at h
  split at h
  · rename_i a b c hw
    rw [hw] at hz
    split at h
    · rename_i ha; subst ha
      cases hb : pe b.data.toList with
      | none => rw [hb] at h; cases h
      | some s =>
        rw [hb] at h
        cases hc : pe c.data.toList with
        | none => rw [hc] at h; cases h
        | some d =>
          rw [hc] at h
          simp only [Option.bind_some, Option.map_some, Option.some.injEq, Prod.mk.injEq] at h
          obtain ⟨rfl, rfl, rfl, rfl, rfl, rfl⟩ := h
          exact parse_udp_ok x hx b c w L hw (hz b (by simp)) _ _ hb (hz c (by simp)) _ _ hc
    · cases h
  · rename_i a b c f hw
    rw [hw] at hz
    split at h
    · rename_i ha; subst ha
      cases hb : pe b.data.toList with
      | none => rw [hb] at h; cases h
      | some s =>
        rw [hb] at h
        cases hc : pe c.data.toList with
        | none => rw [hc] at h; cases h
        | some d =>
          rw [hc] at h
          cases hf : pf f with
          | none => rw [hf] at h; cases h
          | some g =>
            rw [hf] at h
            simp only [Option.bind_some, Option.map_some, Option.some.injEq, Prod.mk.injEq] at h
            obtain ⟨rfl, rfl, rfl, rfl, rfl, rfl⟩ := h
            unfold pf at hf
            split at hf
            · rename_i hd; subst hd
              obtain rfl : g = 0 := (Option.some.inj hf).symm
              exact parse_tcp_dash x hx b c w L hw (hz b (by simp)) _ _ hb (hz c (by simp)) _ _ hc
            · rename_i hd
              exact parse_tcp_ok x hx b c f w L hw (hz b (by simp)) _ _ hb (hz c (by simp)) _ _ hc (hz f (by simp)) T hne g hd hf
    · cases h
  · cases h

structure EnvL (w : World) (s : Nat → Addr) : Prop where
  e : Env w s
  l : Libs w
theorem EnvL.below {w w' : World} {s : Nat → Addr} (E : EnvL w s) (h : Below w.heap.size w w') : EnvL w' s := ⟨E.e.below h, E.l.below h⟩
theorem errV_pos (s : Nat → Addr) (k : Nat) : errV s (k + 1) = .iface 164 (.pointer (some (s k))) := rfl

end Go.Proofs.YtlogpnanfamjeaaGreatDoor
