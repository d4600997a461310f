/-
  The law PlayRuns answers true for every rules, script and node. Conditions: the listed package variables hold what the program's text lays (the card ties them); nothing else.
-/
import Derived.Test.YtdpmeoflgpaljaaGreatDoorCards
import Derived.Test.YtdpmeoflgpaljaaGreatDoorTie
import Derived.Test.YtdpmeoflgpaljaaGreatDoorQ03
import Derived.Test.YtdpmeoflgpaljaaGreatDoorQ18
import Derived.Test.YtdpmeoflgpaljaaGreatDoorQ20
import Derived.Test.YtdpmeoflgpaljaaGreatDoorQ46
import Derived.ProofKit
import Derived.LaidMore
import Derived.Lay
import Derived.OpenShut
import Derived.Stop.Joined
import Derived.SevenTiedAt
import Derived.Deep.DeepHandedRow
import Derived.Deep.DeepWitnessRowRef
import Derived.Deep.Slices
import Derived.Lib.SmallJoins
import Derived.ChangeMaps5
import Derived.Carry
namespace Go.Proofs.YtdpmeoflgpaljaaGreatDoor
open Go.ChangeShapes Go.WideShapes Go.ChangeAt Go.RowKit Go.ChangeMaps

theorem g_env {W : World} (h : laidMetH Tryz.prog Rows.playRunsRow.laid W) : ∃ s, Sents W s := sents_of_laid h (by kernel_rfl) (by kernel_rfl)
theorem g_flg {W : World} (h : laidMetH Tryz.prog Rows.playRunsRow.laid W) : PyF W := flags_of_laid h (by kernel_rfl)
theorem Tryz.own : ownKnob Tryz.prog.godebug = none := by kernel_rfl
abbrev gArgs : Array Value := #[.slice none 0 0, .slice none 0 0, .int .i64 0]
theorem g_met (os : Os) : laidMetH Tryz.prog Rows.playRunsRow.laid ((World.doorLaid Tryz.prog 235 os).forCall (fun _ _ => 0) ⟨#[], gArgs, []⟩).memory :=
  laidMetH_of_parts3 (fuel := 8) (laidMet_of_run' 8 (by kernel_rfl) (by kernel_rfl)) (by kernel_rfl) (by kernel_rfl)
theorem g_reads (os : Os) {H : Type} (enc : TypeId × Value → H) : ∃ places, DataW.whole enc Tryz.prog ((World.doorLaid Tryz.prog 235 os).forCall (fun _ _ => 0) ⟨#[], gArgs, []⟩).memory Tryz.f3.params.toList Rows.playRunsSpec.vars false gArgs.toList 8 = some ([.nil, .nil, .lit (.int .i64 0)], [], places) :=
  ⟨[], by kernel_rfl⟩
set_option maxRecDepth 100000 in
theorem g_lifted (os : Os) (started : os.Started) (H : Type) (enc : TypeId × Value → H) (F : Stop.Interp) :
    ReturnsInHanded {} Tryz.checked os 3 .any ((OpenSpec.ofChange Rows.playRunsSpec).preRow enc Tryz.prog Tryz.f3 Rows.playRunsRow.domain false Rows.playRunsRow.laid) (((OpenSpec.ofChange Rows.playRunsSpec).at F).post enc Tryz.prog Tryz.f3 false true false false) := by
  obtain ⟨places, hx⟩ := g_reads os enc
  refine returnsInHanded_of_row (C := Tryz.checked) (s := OpenSpec.ofChange Rows.playRunsSpec) Tryz.own started (by kernel_rfl) Tryz.func3
    (witness_row_atRef (enc := enc) (C := Tryz.checked) false (World.doorLaid Tryz.prog 235 os) gArgs rfl (by kernel_rfl) (by kernel_rfl) (by kernel_rfl)
      (OpenSpec.preRow_of_cond 8 hx (by kernel_rfl) (fun k hk => by cases hk) (by kernel_rfl) (g_met os))) ?_
  intro W base args ds gs before hval0 hW _ _ _ hL hSh _
  have hval : ∀ (j : Nat) t v, Tryz.f3.params[j]? = some t → args[j]? = some v → Value.okWide Tryz.prog W .any base t v := hval0
  have hW' := hW
  obtain ⟨p, q, hA0, hV, rfl, hfz, hnd⟩ := hW
  have hA : DataW.TrodAll enc Tryz.prog W 0 (fun _ => true) true Tryz.f3.params.toList args.toList ds p := hA0
  rw [Tryz.params3] at hA hval
  obtain ⟨v0, v1, v2, d0, d1, d2, q0, q1, q2, rfl, rfl, rfl, h0, h1, h2⟩ := trodAll_three hA
  obtain ⟨rfl, rfl⟩ := trodVars_none hV
  have hlt : ∀ x ∈ q0 ++ q1 ++ q2, x.block < W.heap.size := fun x hx => hW'.lt x (List.mem_append.2 (.inl hx))
  obtain ⟨rl, R⟩ := open_rules (hval 0 22 v0 rfl rfl) h0
  obtain ⟨l, L⟩ := open_intsC (hval 1 23 v1 rfl rfl) h1
  obtain ⟨n2, hn2⟩ := okWide_int Tryz.underlying3 (hval 2 3 v2 rfl rfl)
  obtain ⟨s, S⟩ := g_env hL
  have hwalk := pruns_law v0 rl v1 l n2 s W S (g_flg hL) R L
  rw [← hn2] at hwalk
  refine hwalk.mono fun e W' ⟨he, hb⟩ => ?_
  subst he
  have e1 : Rows.playRunsSpec.fn H ([d0, d1, d2] ++ []) = { results := [.lit (.bool true)], args := [d0, d1, d2] } := by simp [Rows.playRunsSpec]
  have g0 := Below.trod (P := Tryz.prog) (t := 22) (by kernel_rfl) (by kernel_rfl) (of_decide_eq_true (by kernel_rfl)) h0 hb (fun x hx => hlt x (by simp [hx]))
  have g1 := Below.trod (P := Tryz.prog) (t := 23) (by kernel_rfl) (by kernel_rfl) (of_decide_eq_true (by kernel_rfl)) h1 hb (fun x hx => hlt x (by simp [hx]))
  have g2 := Below.trod (P := Tryz.prog) (t := 3) (by kernel_rfl) (by kernel_rfl) (of_decide_eq_true (by kernel_rfl)) h2 hb (fun x hx => hlt x (by simp [hx]))
  refine ⟨_, rfl, _, _, _, [], q0 ++ (q1 ++ (q2)), [], hW', ?_, ?_, ?_, hb.frame _, fun h => by cases h⟩
  · show DataW.TrodAll enc Tryz.prog W' _ _ _ _ _ (Rows.playRunsSpec.fn H ([d0, d1, d2] ++ [])).results _
    rw [e1]; exact trodAll_mk1 (shut_bool Tryz.underlying4 true)
  · show DataW.TrodAll enc Tryz.prog W' _ _ _ _ _ (Rows.playRunsSpec.fn H ([d0, d1, d2] ++ [])).args _
    rw [e1]; exact trodAll_mk3 g0 g1 g2
  · show DataW.TrodVars enc Tryz.prog W' _ _ (Rows.playRunsSpec.fn H ([d0, d1, d2] ++ [])).vars _
    rw [e1]; rfl

theorem g_said : Rows.PlayRunsSaid :=
  OpenClaim.holds_of_cond 3 Tryz.f3 rfl rfl rfl rfl rfl rfl rfl ⟨rfl, rfl, rfl, rfl, rfl⟩ rfl rfl rfl rfl rfl (by kernel_rfl) Tryz.func3 (by kernel_rfl)
    (of_decide_eq_true (by kernel_rfl)) (by unfold Func.isWrapper; first | (rw [if_pos (by decide +kernel)]; kernel_rfl) | (rw [if_neg (by decide +kernel)]; exact ⟨rfl, rfl⟩))
    (fun os started H enc _ F => by rw [OpenClaim.pre_eq_preRow]; exact g_lifted os started H enc F)
theorem g_plain (f : FuncId) (fn : Func) (hf : Tryz.pinned.checked.prog.funcNamed "twinrampart/twinrampartlaw3.PlayRuns" = some f) (hfn : Tryz.pinned.checked.prog.funcs[f]? = some fn) :
    true = Tryz.pinned.checked.prog.looks [] ∧ ∀ (j : Nat) t, fn.params[j]? = some t → Tryz.pinned.checked.prog.wantsStandIn t = false := by
  obtain rfl : f = 3 := Option.some.inj ((show Tryz.prog.funcNamed "twinrampart/twinrampartlaw3.PlayRuns" = some 3 by kernel_rfl).symm.trans hf) |>.symm
  obtain rfl : fn = Tryz.f3 := (Option.some.inj (Tryz.func3.symm.trans hfn)).symm
  refine ⟨by kernel_rfl, fun j t ht => ?_⟩
  rw [Tryz.params3] at ht
  have hm := Array.mem_of_getElem? ht
  simp only [List.mem_toArray, List.mem_cons, List.not_mem_nil, or_false] at hm
  rcases hm with rfl | rfl | rfl
  · exact (show Tryz.prog.wantsStandIn 22 = false by kernel_rfl)
  · exact (show Tryz.prog.wantsStandIn 23 = false by kernel_rfl)
  · exact (show Tryz.prog.wantsStandIn 3 = false by kernel_rfl)
theorem pruns_card : Rows.PlayRunsCardSaid :=
  Claim7.holds_tied_plain_at .later [] _ _ _ _ g_said (fun _ h => by cases h) (by kernel_rfl) (fun _ h => by cases h) playRuns_row_tie rfl ⟨rfl, rfl⟩ (by kernel_rfl) rfl g_plain (by kernel_rfl)
end Go.Proofs.YtdpmeoflgpaljaaGreatDoor
