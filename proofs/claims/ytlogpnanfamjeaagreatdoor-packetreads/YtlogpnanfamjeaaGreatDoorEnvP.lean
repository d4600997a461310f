/-
  What the rows' list of laid variables, and the world's shape, give the packets' walks.
-/
import Derived.Test.YtlogpnanfamjeaaGreatDoorCards
import Derived.Test.YtlogpnanfamjeaaGreatDoorTie
import Derived.Test.YtlogpnanfamjeaaGreatDoorSents
import Derived.Test.YtlogpnanfamjeaaGreatDoorPkW
import Derived.ProofKit
import Derived.LaidMore
import Derived.Lay
import Derived.OpenShut
import Derived.Stop.Joined
import Derived.SevenTiedAt
import Derived.Deep.DeepHandedRow
import Derived.Deep.DeepWitnessRowRef
import Derived.Lib.LaidTab
import Derived.Shelf.Vars
namespace Go.Proofs.YtlogpnanfamjeaaGreatDoor
open Go.ChangeShapes Go.WideShapes Go.ChangeAt Go.RowKit

def isOne (n : String) (x : String × DataW Unit) : Bool := x.1 == n
theorem Tryz.gPow : Tryz.prog.globalNamed "internal/strconv.uint64pow10" = some 13 := by kernel_rfl
theorem Tryz.gPowT : (Tryz.prog.globals[13]?).map (·.type) = some 144 := by kernel_rfl
theorem Tryz.cellsU64 : Tryz.prog.cellsOf 127 = 1 := by kernel_rfl
theorem Tryz.cellsPow : Tryz.prog.cellsOf 144 = 20 := by kernel_rfl
theorem pow_of_laid {l : List (String × DataW Unit)} {W : World} (h : laidMetH Tryz.prog l W) (e : l.filter (isOne "internal/strconv.uint64pow10") = [("internal/strconv.uint64pow10", Lib.tabData .u64 Lib.pow10Tab)]) : Pow W := by
  have h1 := h.filter (isOne "internal/strconv.uint64pow10")
  rw [e] at h1
  exact Lib.tabIs_of_head (rest := []) Tryz.gPow Tryz.gPowT Tryz.underlying144 Tryz.underlying127 Tryz.cellsU64 Tryz.cellsPow h1

theorem Tryz.gNm : Tryz.prog.globalNamed "twinrampart/packet.flagNames" = some 3 := by kernel_rfl
theorem Tryz.gNmT : (Tryz.prog.globals[3]?).map (·.type) = some 66 := by kernel_rfl
def nmD : DataW Unit := .agg [.lit (.string [115, 121, 110]), .lit (.string [97, 99, 107]), .lit (.string [102, 105, 110]), .lit (.string [114, 115, 116])]
theorem nms_of_laid {l : List (String × DataW Unit)} {W : World} (h : laidMetH Tryz.prog l W) (e : l.filter (isOne "twinrampart/packet.flagNames") = [("twinrampart/packet.flagNames", nmD)]) : Nms W := by
  have h1 := h.filter (isOne "twinrampart/packet.flagNames")
  rw [e] at h1
  have h2 : laidMet Tryz.prog [("twinrampart/packet.flagNames", nmD)] W := h1
  obtain ⟨ps, ⟨g, t, cs, fuel, p, q, hg, ht, hv, hd, _, _⟩, _, _⟩ := h2
  obtain rfl := Option.some.inj (Tryz.gNm.symm.trans hg)
  obtain rfl := Option.some.inj (Tryz.gNmT.symm.trans ht)
  obtain ⟨xs, m, _, ex, _, hl, hel⟩ := DataW.trod_array Tryz.underlying66 hd
  have e3 : (xs.map (·.1)) = [.lit (.string [115, 121, 110]), .lit (.string [97, 99, 107]), .lit (.string [102, 105, 110]), .lit (.string [114, 115, 116])] := (DataW.agg.inj (Prod.mk.inj ex).1).symm
  have key : ∀ (r : Nat) (t : List UInt8), r < 4 → (xs.map (·.1))[r]? = some (.lit (.string t)) → W.cell? ⟨3, r, none⟩ = some (.string ⟨t.toArray⟩) := fun r t hr hx => by
    have hE := hel r hr
    rw [Tryz.cellsS, Nat.mul_one, List.getElem?_eq_getElem (by omega)] at hE
    obtain ⟨z, e1, e2, _⟩ := DataW.trod_string Tryz.underlying9 hE
    rw [List.getElem?_map, List.getElem?_eq_getElem (by omega : r < xs.length), e2] at hx
    simp only [Option.map_some, Option.some.injEq, DataW.lit.injEq, Lit.string.injEq] at hx
    rw [World.var?_cell hg hv r]
    have h0 : ((cs.toList.drop r).take 1)[0]? = some (.string z) := by rw [e1]; rfl
    have h3 : cs[r]? = some (.string z) := by simpa using h0
    rw [h3]
    have : z = ⟨t.toArray⟩ := by apply ByteArray.ext; apply Array.ext'; rw [hx]
    rw [this]
  exact ⟨key 0 _ (by omega) (by rw [e3]; rfl), key 1 _ (by omega) (by rw [e3]; rfl), key 2 _ (by omega) (by rw [e3]; rfl), key 3 _ (by omega) (by rw [e3]; rfl)⟩

def libL : List (String × List UInt8) := [("strconv.ErrRange", [118, 97, 108, 117, 101, 32, 111, 117, 116, 32, 111, 102, 32, 114, 97, 110, 103, 101]), ("strconv.ErrSyntax", [105, 110, 118, 97, 108, 105, 100, 32, 115, 121, 110, 116, 97, 120])]
def isLib (x : String × DataW Unit) : Bool := (libL.map (·.1)).contains x.1
theorem Tryz.gSyn : Tryz.prog.globalNamed "strconv.ErrSyntax" = some 15 := by kernel_rfl
theorem Tryz.gRan : Tryz.prog.globalNamed "strconv.ErrRange" = some 16 := by kernel_rfl
theorem Tryz.gSynT : (Tryz.prog.globals[15]?).map (·.type) = some 28 := by kernel_rfl
theorem Tryz.gRanT : (Tryz.prog.globals[16]?).map (·.type) = some 28 := by kernel_rfl
theorem libs_of {l : List (String × DataW Unit)} {W : World} (h : laidMetH Tryz.prog l W) (e : l.filter isLib = libL.map sentD) (hS : W.ShapedOpen Tryz.prog) : Libs W := by
  have h1 := h.filter isLib
  rw [e] at h1
  have h2 : laidMet Tryz.prog (libL.map sentD) W := h1
  obtain ⟨ps, hv, hnd, hrows⟩ := h2
  obtain ⟨zs, hlen, hf, _⟩ := sents_list Tryz.underlying28 Tryz.rowES Tryz.underlying164 Tryz.underlying166 rfl rfl Tryz.underlying9 Tryz.cellsES Tryz.cellsS libL ps
    (fun x hx => by
      simp only [libL, List.mem_cons, List.not_mem_nil, or_false] at hx
      rcases hx with rfl | rfl
      · exact ⟨_, Tryz.gRan, Tryz.gRanT⟩
      · exact ⟨_, Tryz.gSyn, Tryz.gSynT⟩) hv hrows
  have hl : zs.length = 2 := by rw [hlen]; rfl
  have at' : ∀ i : Nat, i < 2 → zs[i]? = some (zs.getD i ⟨0, 0, none⟩) := fun i hi => by
    rw [List.getD_eq_getElem?_getD, List.getElem?_eq_getElem (by omega)]; rfl
  refine ⟨?_, ?_, ?_⟩
  · exact cell_of_shapedOpen_int (g := 14) (t := 3) (k := .i64) (zero := #[.int .i64 0]) hS (of_decide_eq_true (by kernel_rfl)) (by kernel_rfl) rfl (by kernel_rfl) (by kernel_rfl) Tryz.underlying3
  · exact ⟨_, _, by simpa using World.var?_cell Tryz.gSyn (hf 1 _ _ rfl (at' 1 (by omega))).1 0⟩
  · exact ⟨_, _, by simpa using World.var?_cell Tryz.gRan (hf 0 _ _ rfl (at' 0 (by omega))).1 0⟩
theorem env_of {l : List (String × DataW Unit)} {W : World} (h : laidMetH Tryz.prog l W) (hS : W.ShapedOpen Tryz.prog) (e1 : l.filter isSent = sentL.map sentD) (e2 : l.filter isHandle = [("errors.errorType", handleD)])
    (e3 : l.filter (isOne "internal/strconv.uint64pow10") = [("internal/strconv.uint64pow10", Lib.tabData .u64 Lib.pow10Tab)]) (e4 : l.filter (isOne "twinrampart/packet.flagNames") = [("twinrampart/packet.flagNames", nmD)]) (e5 : l.filter isLib = libL.map sentD) : ∃ s, EnvL W s := by
  obtain ⟨s, S⟩ := sents_of_laid h e1 e2
  exact ⟨s, ⟨⟨S, pow_of_laid h e3, nms_of_laid h e4⟩, libs_of h e5 hS⟩⟩
end Go.Proofs.YtlogpnanfamjeaaGreatDoor
