/-
  The law NodeTimes answers true for every node, proto, both ends, and whatever waits. Conditions: the listed package variables hold what the program's text lays (the card ties them); nothing else.
-/
import Derived.Test.YtapdelipmibabaaDoorCards
import Derived.Test.YtapdelipmibabaaDoorTie
import Derived.Test.YtapdelipmibabaaDoorNoU
import Derived.Test.YtapdelipmibabaaDoorTbO
import Derived.Test.YtapdelipmibabaaDoorTr5
import Derived.Test.YtapdelipmibabaaDoorNtB
import Derived.ProofKit
import Derived.LaidMore
import Derived.Lay
import Derived.OpenShut
import Derived.Stop.Joined
import Derived.SevenTiedAt
import Derived.Deep.DeepHandedRow
import Derived.Deep.DeepWitnessRowRef
import Derived.Deep.Slices
import Derived.Lib.SmallJoins
import Derived.ChangeMaps5
import Derived.Carry
namespace Go.Proofs.YtapdelipmibabaaDoor
open Go.ChangeShapes Go.WideShapes Go.ChangeAt Go.RowKit Go.ChangeMaps

theorem g_env {W : World} (h : laidMetH Tryd.prog Rows.nodeTimesRow.laid W) : ∃ s, SeM W s := of_laidNoU h (by kernel_rfl)
theorem Tryd.own : ownKnob Tryd.prog.godebug = none := by kernel_rfl
abbrev gArgs : Array Value := #[.int .i64 0, .int .i64 0, .agg #[.int .i64 0, .int .i64 0], .agg #[.int .i64 0, .int .i64 0], .slice none 0 0]
theorem g_met (os : Os) : laidMetH Tryd.prog Rows.nodeTimesRow.laid ((World.doorLaid Tryd.prog 199 os).forCall (fun _ _ => 0) ⟨#[], gArgs, []⟩).memory :=
  laidMetH_of_parts3 (fuel := 8) (laidMet_of_run' 8 (by kernel_rfl) (by kernel_rfl)) (by kernel_rfl) (by kernel_rfl)
theorem g_reads (os : Os) {H : Type} (enc : TypeId × Value → H) : ∃ places, DataW.whole enc Tryd.prog ((World.doorLaid Tryd.prog 199 os).forCall (fun _ _ => 0) ⟨#[], gArgs, []⟩).memory Tryd.f3.params.toList Rows.nodeTimesSpec.vars false gArgs.toList 8 = some ([.lit (.int .i64 0), .lit (.int .i64 0), .agg [.lit (.int .i64 0), .lit (.int .i64 0)], .agg [.lit (.int .i64 0), .lit (.int .i64 0)], .nil], [], places) :=
  ⟨[], by kernel_rfl⟩
set_option maxRecDepth 100000 in
theorem g_lifted (os : Os) (started : os.Started) (H : Type) (enc : TypeId × Value → H) (F : Stop.Interp) :
    ReturnsInHanded {} Tryd.checked os 3 .any ((OpenSpec.ofChange Rows.nodeTimesSpec).preRow enc Tryd.prog Tryd.f3 Rows.nodeTimesRow.domain false Rows.nodeTimesRow.laid) (((OpenSpec.ofChange Rows.nodeTimesSpec).at F).post enc Tryd.prog Tryd.f3 false true false false) := by
  obtain ⟨places, hx⟩ := g_reads os enc
  refine returnsInHanded_of_row (C := Tryd.checked) (s := OpenSpec.ofChange Rows.nodeTimesSpec) Tryd.own started (by kernel_rfl) Tryd.func3
    (witness_row_atRef (enc := enc) (C := Tryd.checked) false (World.doorLaid Tryd.prog 199 os) gArgs rfl (by kernel_rfl) (by kernel_rfl) (by kernel_rfl)
      (OpenSpec.preRow_of_cond 8 hx (by kernel_rfl) (fun k hk => by cases hk) (by kernel_rfl) (g_met os))) ?_
  intro W base args ds gs before hval0 hW _ _ _ hL hSh _
  have hval : ∀ (j : Nat) t v, Tryd.f3.params[j]? = some t → args[j]? = some v → Value.okWide Tryd.prog W .any base t v := hval0
  have hW' := hW
  obtain ⟨p, q, hA0, hV, rfl, hfz, hnd⟩ := hW
  have hA : DataW.TrodAll enc Tryd.prog W 0 (fun _ => true) true Tryd.f3.params.toList args.toList ds p := hA0
  rw [Tryd.params3] at hA hval
  obtain ⟨v0, v1, v2, v3, v4, d0, d1, d2, d3, d4, q0, q1, q2, q3, q4, rfl, rfl, rfl, h0, h1, h2, h3, h4⟩ := trodAll_five hA
  obtain ⟨rfl, rfl⟩ := trodVars_none hV
  have hlt : ∀ x ∈ q0 ++ q1 ++ q2 ++ q3 ++ q4, x.block < W.heap.size := fun x hx => hW'.lt x (List.mem_append.2 (.inl hx))
  obtain ⟨n0, hn0⟩ := okWide_int Tryd.underlying3 (hval 0 3 v0 rfl rfl)
  obtain ⟨n1, hn1⟩ := okWide_int Tryd.underlying3 (hval 1 3 v1 rfl rfl)
  obtain ⟨a2, p2, hn2⟩ := open_end (hval 2 23 v2 rfl rfl) h2
  obtain ⟨a3, p3, hn3⟩ := open_end (hval 3 23 v3 rfl rfl) h3
  obtain ⟨l, L⟩ := open_intsI (hval 4 24 v4 rfl rfl) h4
  obtain ⟨s, S⟩ := g_env hL
  have hwalk := times_law n0 n1 a2 p2 a3 p3 v4 l s W S L
  rw [← hn0, ← hn1, ← hn2, ← hn3] at hwalk
  refine hwalk.mono fun e W' ⟨he, hb⟩ => ?_
  subst he
  have e1 : Rows.nodeTimesSpec.fn H ([d0, d1, d2, d3, d4] ++ []) = { results := [.lit (.bool true)], args := [d0, d1, d2, d3, d4] } := by simp [Rows.nodeTimesSpec]
  have g0 := Below.trod (P := Tryd.prog) (t := 3) (by kernel_rfl) (by kernel_rfl) (of_decide_eq_true (by kernel_rfl)) h0 hb (fun x hx => hlt x (by simp [hx]))
  have g1 := Below.trod (P := Tryd.prog) (t := 3) (by kernel_rfl) (by kernel_rfl) (of_decide_eq_true (by kernel_rfl)) h1 hb (fun x hx => hlt x (by simp [hx]))
  have g2 := Below.trod (P := Tryd.prog) (t := 23) (by kernel_rfl) (by kernel_rfl) (of_decide_eq_true (by kernel_rfl)) h2 hb (fun x hx => hlt x (by simp [hx]))
  have g3 := Below.trod (P := Tryd.prog) (t := 23) (by kernel_rfl) (by kernel_rfl) (of_decide_eq_true (by kernel_rfl)) h3 hb (fun x hx => hlt x (by simp [hx]))
  have g4 := Below.trod (P := Tryd.prog) (t := 24) (by kernel_rfl) (by kernel_rfl) (of_decide_eq_true (by kernel_rfl)) h4 hb (fun x hx => hlt x (by simp [hx]))
  refine ⟨_, rfl, _, _, _, [], q0 ++ (q1 ++ (q2 ++ (q3 ++ (q4)))), [], hW', ?_, ?_, ?_, hb.frame _, fun h => by cases h⟩
  · show DataW.TrodAll enc Tryd.prog W' _ _ _ _ _ (Rows.nodeTimesSpec.fn H ([d0, d1, d2, d3, d4] ++ [])).results _
    rw [e1]; exact trodAll_mk1 (shut_bool Tryd.underlying4 true)
  · show DataW.TrodAll enc Tryd.prog W' _ _ _ _ _ (Rows.nodeTimesSpec.fn H ([d0, d1, d2, d3, d4] ++ [])).args _
    rw [e1]; exact trodAll_mk5 g0 g1 g2 g3 g4
  · show DataW.TrodVars enc Tryd.prog W' _ _ (Rows.nodeTimesSpec.fn H ([d0, d1, d2, d3, d4] ++ [])).vars _
    rw [e1]; rfl

theorem g_said : Rows.NodeTimesSaid :=
  OpenClaim.holds_of_cond 3 Tryd.f3 rfl rfl rfl rfl rfl rfl rfl ⟨rfl, rfl, rfl, rfl, rfl⟩ rfl rfl rfl rfl rfl (by kernel_rfl) Tryd.func3 (by kernel_rfl)
    (of_decide_eq_true (by kernel_rfl)) (by unfold Func.isWrapper; first | (rw [if_pos (by decide +kernel)]; kernel_rfl) | (rw [if_neg (by decide +kernel)]; exact ⟨rfl, rfl⟩))
    (fun os started H enc _ F => by rw [OpenClaim.pre_eq_preRow]; exact g_lifted os started H enc F)
theorem g_plain (f : FuncId) (fn : Func) (hf : Tryd.pinned.checked.prog.funcNamed "twinrampart/twinrampartlaw2.NodeTimes" = some f) (hfn : Tryd.pinned.checked.prog.funcs[f]? = some fn) :
    false = Tryd.pinned.checked.prog.looks [] ∧ ∀ (j : Nat) t, fn.params[j]? = some t → Tryd.pinned.checked.prog.wantsStandIn t = false := by
  obtain rfl : f = 3 := Option.some.inj ((show Tryd.prog.funcNamed "twinrampart/twinrampartlaw2.NodeTimes" = some 3 by kernel_rfl).symm.trans hf) |>.symm
  obtain rfl : fn = Tryd.f3 := (Option.some.inj (Tryd.func3.symm.trans hfn)).symm
  refine ⟨by kernel_rfl, fun j t ht => ?_⟩
  rw [Tryd.params3] at ht
  have hm := Array.mem_of_getElem? ht
  simp only [List.mem_toArray, List.mem_cons, List.not_mem_nil, or_false] at hm
  rcases hm with rfl | rfl | rfl | rfl | rfl
  · exact (show Tryd.prog.wantsStandIn 3 = false by kernel_rfl)
  · exact (show Tryd.prog.wantsStandIn 3 = false by kernel_rfl)
  · exact (show Tryd.prog.wantsStandIn 23 = false by kernel_rfl)
  · exact (show Tryd.prog.wantsStandIn 23 = false by kernel_rfl)
  · exact (show Tryd.prog.wantsStandIn 24 = false by kernel_rfl)
theorem ntimes_card : Rows.NodeTimesCardSaid :=
  Claim7.holds_tied_plain_at .later [] _ _ _ _ g_said (fun _ h => by cases h) (by kernel_rfl) (fun _ h => by cases h) nodeTimes_row_tie rfl ⟨rfl, rfl⟩ (by kernel_rfl) rfl g_plain (by kernel_rfl)
end Go.Proofs.YtapdelipmibabaaDoor
