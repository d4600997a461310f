/-
  What the rows' list of laid variables gives the policies' walks.
-/
import Derived.Test.YtpmoamfhppmicaaGreatDoorCards
import Derived.Test.YtpmoamfhppmicaaGreatDoorTie
import Derived.Test.YtpmoamfhppmicaaGreatDoorSents
import Derived.Test.YtpmoamfhppmicaaGreatDoorPoH
import Derived.ProofKit
import Derived.LaidMore
import Derived.Lay
import Derived.OpenShut
import Derived.Stop.Joined
import Derived.SevenTiedAt
import Derived.Deep.DeepHandedRow
import Derived.Deep.DeepWitnessRowRef
import Derived.Deep.Slices
import Derived.Lib.LaidTab
import Derived.Shelf.Vars
namespace Go.Proofs.YtpmoamfhppmicaaGreatDoor
open Go.ChangeShapes Go.WideShapes Go.ChangeAt Go.RowKit

def isOne (n : String) (x : String × DataW Unit) : Bool := x.1 == n
theorem Tryz.gPow : Tryz.prog.globalNamed "internal/strconv.uint64pow10" = some 14 := by kernel_rfl
theorem Tryz.gPowT : (Tryz.prog.globals[14]?).map (·.type) = some 142 := by kernel_rfl
theorem Tryz.cellsU64 : Tryz.prog.cellsOf 129 = 1 := by kernel_rfl
theorem Tryz.cellsPow : Tryz.prog.cellsOf 142 = 20 := by kernel_rfl
theorem pow_of_laid {l : List (String × DataW Unit)} {W : World} (h : laidMetH Tryz.prog l W) (e : l.filter (isOne "internal/strconv.uint64pow10") = [("internal/strconv.uint64pow10", Lib.tabData .u64 Lib.pow10Tab)]) : Pow W := by
  have h1 := h.filter (isOne "internal/strconv.uint64pow10")
  rw [e] at h1
  exact Lib.tabIs_of_head (rest := []) Tryz.gPow Tryz.gPowT Tryz.underlying142 Tryz.underlying129 Tryz.cellsU64 Tryz.cellsPow h1

theorem row_words {H : Type} {enc : TypeId × Value → H} {W : World} {base : Nat} {sp : Nat → Bool} {held : Bool} {fuel : Nat} {cs : List Value} {x : DataW H × List MemPlace} (h : DataW.trod enc Tryz.prog W base sp held fuel 55 cs = some x)
    (ws : List (List UInt8)) (hw : ws ≠ []) (hx : x.1 = .slice (ws.map fun t => .lit (.string t)) []) :
    ∃ b o k : Nat, cs = [.slice (some ⟨b, o, none⟩) ws.length k] ∧ ∀ (j : Nat) t, ws[j]? = some t → W.cell? ⟨b, o + j, none⟩ = some (.string ⟨t.toArray⟩) := by
  rcases Go.Deep.open_slice1 Tryz.underlying55 Tryz.cellsS h with ⟨_, rfl⟩ | ⟨a, len, cap, m, n, V, D, Pl, rfl, _, hlc, _, hm, rfl, hV⟩
  · cases hx
  have hlm : len ≤ m := by rw [hm]; split <;> omega
  have hE : (List.range len).map D = ws.map fun t => .lit (.string t) := (DataW.slice.inj hx).1
  have hlen : len = ws.length := by have := congrArg List.length hE; simpa using this
  subst hlen
  have key : ∀ (j : Nat) t, ws[j]? = some t → W.cell? (a.add j) = some (.string ⟨t.toArray⟩) := fun j t hj => by
    obtain ⟨hlt, _⟩ := List.getElem?_eq_some_iff.1 hj
    obtain ⟨h1, h2⟩ := hV j (by omega)
    obtain ⟨z, e1, e2, _⟩ := DataW.trod_string Tryz.underlying9 h2
    have e3 : D j = .lit (.string t) := by
      have h3 : ((List.range ws.length).map D)[j]? = some (D j) := by rw [List.getElem?_map, List.getElem?_range hlt]; rfl
      rw [hE, List.getElem?_map, hj] at h3
      exact (Option.some.inj h3).symm
    rw [h1]
    have e4 : V j = .string z := by simpa using e1
    have e5 : t = z.data.toList := by
      have := (Prod.mk.inj e2).1
      rw [e3] at this
      simpa using this
    rw [e4]
    have : z = ⟨t.toArray⟩ := by apply ByteArray.ext; apply Array.ext'; rw [e5]
    rw [this]
  obtain ⟨b, o, sp'⟩ := a
  obtain ⟨t0, ht0⟩ : ∃ t, ws[0]? = some t := by
    cases ws with
    | nil => exact absurd rfl hw
    | cons t r => exact ⟨t, rfl⟩
  have hsp : sp' = none := by
    have h0 := key 0 t0 ht0
    cases sp' with
    | none => rfl
    | some q =>
      have e : Addr.add ⟨b, o, some q⟩ 0 = ⟨b, o, some q⟩ := rfl
      rw [e] at h0
      unfold World.cell? at h0
      split at h0
      · simp at h0
      · cases h0
  subst hsp
  exact ⟨b, o, cap, rfl, fun j t hj => by rw [← addr_add]; exact key j t hj⟩

theorem Tryz.gPn : Tryz.prog.globalNamed "twinrampart/policy.names" = some 2 := by kernel_rfl
theorem Tryz.gPnT : (Tryz.prog.globals[2]?).map (·.type) = some 71 := by kernel_rfl
theorem Tryz.cellsSl : Tryz.prog.cellsOf 55 = 1 := by kernel_rfl
def pnW : List (List (List UInt8)) := [[[100, 101, 110, 121], [97, 108, 108, 111, 119]], [[105, 110], [111, 117, 116]], [[97, 110, 121], [117, 100, 112], [116, 99, 112]]]
def pnD : DataW Unit := .agg (pnW.map fun r => .slice (r.map fun t => .lit (.string t)) [])
theorem pnm_of_laid {l : List (String × DataW Unit)} {W : World} (h : laidMetH Tryz.prog l W) (e : l.filter (isOne "twinrampart/policy.names") = [("twinrampart/policy.names", pnD)]) : PNm W := by
  have h1 := h.filter (isOne "twinrampart/policy.names")
  rw [e] at h1
  have h2 : laidMet Tryz.prog [("twinrampart/policy.names", pnD)] W := h1
  obtain ⟨ps, ⟨g, t, cs, fuel, p, q, hg, ht, hv, hd, _, _⟩, _, _⟩ := h2
  obtain rfl := Option.some.inj (Tryz.gPn.symm.trans hg)
  obtain rfl := Option.some.inj (Tryz.gPnT.symm.trans ht)
  obtain ⟨xs, m, _, ex, _, hl, hel⟩ := DataW.trod_array Tryz.underlying71 hd
  have e3 : (xs.map (·.1)) = pnW.map fun r => .slice (r.map fun t => .lit (.string t)) [] := (DataW.agg.inj (Prod.mk.inj ex).1).symm
  have key : ∀ (r : Nat) (ws : List (List UInt8)), r < 3 → pnW[r]? = some ws → ws ≠ [] → ∃ b o k : Nat, W.cell? ⟨2, r, none⟩ = some (.slice (some ⟨b, o, none⟩) ws.length k) ∧ ∀ (j : Nat) t, ws[j]? = some t → W.cell? ⟨b, o + j, none⟩ = some (.string ⟨t.toArray⟩) := fun r ws hr hx hne => by
    have hE := hel r hr
    rw [Tryz.cellsSl, Nat.mul_one, List.getElem?_eq_getElem (by omega)] at hE
    have hx1 : (xs[r]'(by omega)).1 = .slice (ws.map fun t => .lit (.string t)) [] := by
      have h4 : (xs.map (·.1))[r]? = some (.slice (ws.map fun t => .lit (.string t)) []) := by rw [e3, List.getElem?_map, hx]; rfl
      rw [List.getElem?_map, List.getElem?_eq_getElem (by omega : r < xs.length)] at h4
      exact Option.some.inj h4
    obtain ⟨b, o, k, e1, hc⟩ := row_words hE ws hne hx1
    refine ⟨b, o, k, ?_, hc⟩
    rw [World.var?_cell hg hv r]
    have h0 : ((cs.toList.drop r).take 1)[0]? = some (.slice (some ⟨b, o, none⟩) ws.length k) := by rw [e1]; rfl
    simpa using h0
  intro i hi
  match i, hi with
  | 0, _ =>
    obtain ⟨b, o, k, h1, h2⟩ := key 0 _ (by omega) rfl (by simp)
    refine ⟨b, o, k, h1, fun j hj => ?_⟩
    match j, hj with
    | 0, _ => exact h2 0 _ rfl
    | 1, _ => exact h2 1 _ rfl
  | 1, _ =>
    obtain ⟨b, o, k, h1, h2⟩ := key 1 _ (by omega) rfl (by simp)
    refine ⟨b, o, k, h1, fun j hj => ?_⟩
    match j, hj with
    | 0, _ => exact h2 0 _ rfl
    | 1, _ => exact h2 1 _ rfl
  | 2, _ =>
    obtain ⟨b, o, k, h1, h2⟩ := key 2 _ (by omega) rfl (by simp)
    refine ⟨b, o, k, h1, fun j hj => ?_⟩
    match j, hj with
    | 0, _ => exact h2 0 _ rfl
    | 1, _ => exact h2 1 _ rfl
    | 2, _ => exact h2 2 _ rfl
def senL : List (String × List UInt8) := [
  ("twinrampart/api.ErrBound", [116, 119, 105, 110, 114, 97, 109, 112, 97, 114, 116, 58, 32, 98, 111, 117, 110, 100]),
  ("twinrampart/api.ErrShape", [116, 119, 105, 110, 114, 97, 109, 112, 97, 114, 116, 58, 32, 115, 104, 97, 112, 101])]
def isSen (x : String × DataW Unit) : Bool := (senL.map (·.1)).contains x.1
theorem Tryz.gBoundT : (Tryz.prog.globals[0]?).map (·.type) = some 25 := by kernel_rfl
theorem Tryz.gShapeT : (Tryz.prog.globals[3]?).map (·.type) = some 25 := by kernel_rfl
theorem sen_of_laid {l : List (String × DataW Unit)} {W : World} (h : laidMetH Tryz.prog l W) (e : l.filter isSen = senL.map sentD) : ∃ s, Sen W s := by
  have h1 := h.filter isSen
  rw [e] at h1
  have h2 : laidMet Tryz.prog (senL.map sentD) W := h1
  obtain ⟨ps, hv, hnd, hrows⟩ := h2
  obtain ⟨zs, hlen, hf, _⟩ := sents_list Tryz.underlying25 Tryz.rowES Tryz.underlying161 Tryz.underlying163 rfl rfl Tryz.underlying9 Tryz.cellsES Tryz.cellsS senL ps
    (fun x hx => by
      simp only [senL, List.mem_cons, List.not_mem_nil, or_false] at hx
      rcases hx with rfl | rfl
      · exact ⟨_, Tryz.gBound, Tryz.gBoundT⟩
      · exact ⟨_, Tryz.gShape, Tryz.gShapeT⟩) hv hrows
  have hl : zs.length = 2 := by rw [hlen]; rfl
  have at' : ∀ i : Nat, i < 2 → zs[i]? = some (zs.getD i ⟨0, 0, none⟩) := fun i hi => by
    rw [List.getD_eq_getElem?_getD, List.getElem?_eq_getElem (by omega)]; rfl
  refine ⟨fun i => zs.getD (i - 1) ⟨0, 0, none⟩, ?_, ?_⟩
  · simpa using World.var?_cell Tryz.gBound (hf 0 _ _ rfl (at' 0 (by omega))).1 0
  · simpa using World.var?_cell Tryz.gShape (hf 1 _ _ rfl (at' 1 (by omega))).1 0
theorem envQ_of {l : List (String × DataW Unit)} {W : World} (h : laidMetH Tryz.prog l W) (e1 : l.filter isSen = senL.map sentD) (e2 : l.filter (isOne "internal/strconv.uint64pow10") = [("internal/strconv.uint64pow10", Lib.tabData .u64 Lib.pow10Tab)])
    (e3 : l.filter (isOne "twinrampart/policy.names") = [("twinrampart/policy.names", pnD)]) : ∃ s, EnvQ W s := by
  obtain ⟨s, S⟩ := sen_of_laid h e1
  exact ⟨s, ⟨S, pow_of_laid h e2, pnm_of_laid h e3⟩⟩
end Go.Proofs.YtpmoamfhppmicaaGreatDoor
