/-
  The law PolicyFirst answers true for all rules, every rule, every packet, both ways. Conditions: the listed package variables hold what the program's text lays (the card ties them); nothing else.
-/
import Derived.Test.YtklfmlbhkijgoaaDoorPoK
import Derived.Test.YtklfmlbhkijgoaaDoorPoL
import Derived.Test.YtklfmlbhkijgoaaDoorPoJ
import Derived.Lib.SmallJoins
import Derived.ChangeMaps5
namespace Go.Proofs.YtklfmlbhkijgoaaDoor
open Go.ChangeShapes Go.WideShapes Go.ChangeAt Go.RowKit Go.ChangeMaps

theorem Tryd.own : ownKnob Tryd.prog.godebug = none := by kernel_rfl
abbrev fArgs : Array Value := #[.slice none 0 0, .agg #[.bool false, .bool false, .int .i64 0, .int .i64 0, .int .i64 0], pkt 0 0 0 0 0 0, .bool false]
theorem f_met (os : Os) : laidMetH Tryd.prog Rows.policyFirstRow.laid ((World.doorLaid Tryd.prog 248 os).forCall (fun _ _ => 0) ⟨#[], fArgs, []⟩).memory :=
  laidMetH_of_parts3 (fuel := 8) (laidMet_of_run' 8 (by kernel_rfl) (by kernel_rfl)) (by kernel_rfl) (by kernel_rfl)
theorem f_env {W : World} (h : laidMetH Tryd.prog Rows.policyFirstRow.laid W) : ∃ s, EnvQ W s := envQ_of h (by kernel_rfl) (by kernel_rfl) (by kernel_rfl)
theorem f_reads (os : Os) {H : Type} (enc : TypeId × Value → H) : ∃ places, DataW.whole enc Tryd.prog ((World.doorLaid Tryd.prog 248 os).forCall (fun _ _ => 0) ⟨#[], fArgs, []⟩).memory Tryd.f6.params.toList Rows.policyFirstSpec.vars false fArgs.toList 8 = some ([.nil, .agg [.lit (.bool false), .lit (.bool false), .lit (.int .i64 0), .lit (.int .i64 0), .lit (.int .i64 0)], .agg [.lit (.int .i64 0), .agg [.lit (.int .i64 0), .lit (.int .i64 0)], .agg [.lit (.int .i64 0), .lit (.int .i64 0)], .lit (.int .i64 0)], .lit (.bool false)], [], places) :=
  ⟨[], by kernel_rfl⟩
set_option maxRecDepth 100000 in
theorem f_lifted (os : Os) (started : os.Started) (H : Type) (enc : TypeId × Value → H) (F : Stop.Interp) :
    ReturnsInHanded {} Tryd.checked os 6 .any ((OpenSpec.ofChange Rows.policyFirstSpec).preRow enc Tryd.prog Tryd.f6 Rows.policyFirstRow.domain false Rows.policyFirstRow.laid) (((OpenSpec.ofChange Rows.policyFirstSpec).at F).post enc Tryd.prog Tryd.f6 false true false false) := by
  obtain ⟨places, hx⟩ := f_reads os enc
  refine returnsInHanded_of_row (C := Tryd.checked) (s := OpenSpec.ofChange Rows.policyFirstSpec) Tryd.own started (by kernel_rfl) Tryd.func6
    (witness_row_atRef (enc := enc) (C := Tryd.checked) false (World.doorLaid Tryd.prog 248 os) fArgs rfl (by kernel_rfl) (by kernel_rfl) (by kernel_rfl)
      (OpenSpec.preRow_of_cond 8 hx (by kernel_rfl) (fun k hk => by cases hk) (by kernel_rfl) (f_met os))) ?_
  intro W base args ds gs before hval0 hW _ _ _ hL hSh _
  have hval : ∀ (j : Nat) t v, Tryd.f6.params[j]? = some t → args[j]? = some v → Value.okWide Tryd.prog W .any base t v := hval0
  have hW' := hW
  obtain ⟨p, q, hA0, hV, rfl, hfz, hnd⟩ := hW
  have hA : DataW.TrodAll enc Tryd.prog W 0 (fun _ => true) true Tryd.f6.params.toList args.toList ds p := hA0
  rw [Tryd.params6] at hA hval
  obtain ⟨v0, v1, v2, v3, d0, d1, d2, d3, q0, q1, q2, q3, rfl, rfl, rfl, h0, h1, h2, h3⟩ := trodAll_four hA
  obtain ⟨rfl, rfl⟩ := trodVars_none hV
  have hlt : ∀ x ∈ q0 ++ q1 ++ q2 ++ q3, x.block < W.heap.size := fun x hx => hW'.lt x (List.mem_append.2 (.inl hx))
  obtain ⟨l, L⟩ := open_rules (hval 0 35 v0 rfl rfl) h0
  obtain ⟨r, hr⟩ := open_rl (hval 1 55 v1 rfl rfl) h1
  obtain ⟨x1, x2, x3, x4, x5, x6, hk, _⟩ := open_pkt (hval 2 39 v2 rfl rfl) h2
  obtain ⟨ou, hou⟩ := okWide_bool Tryd.underlying4 (hval 3 4 v3 rfl rfl)
  obtain ⟨s, E⟩ := f_env hL
  have hwalk := first_any v0 l r x1 x2 x3 x4 x5 x6 ou s W E L
  rw [← hr, ← hk, ← hou] at hwalk
  refine hwalk.mono fun e W' ⟨he, hb⟩ => ?_
  subst he
  have e1 : Rows.policyFirstSpec.fn H ([d0, d1, d2, d3] ++ []) = { results := [.lit (.bool true)], args := [d0, d1, d2, d3] } := by simp [Rows.policyFirstSpec]
  have g0 := Below.trod (P := Tryd.prog) (t := 35) (by kernel_rfl) (by kernel_rfl) (of_decide_eq_true (by kernel_rfl)) h0 hb (fun x hx => hlt x (by simp [hx]))
  have g1 := Below.trod (P := Tryd.prog) (t := 55) (by kernel_rfl) (by kernel_rfl) (of_decide_eq_true (by kernel_rfl)) h1 hb (fun x hx => hlt x (by simp [hx]))
  have g2 := Below.trod (P := Tryd.prog) (t := 39) (by kernel_rfl) (by kernel_rfl) (of_decide_eq_true (by kernel_rfl)) h2 hb (fun x hx => hlt x (by simp [hx]))
  have g3 := Below.trod (P := Tryd.prog) (t := 4) (by kernel_rfl) (by kernel_rfl) (of_decide_eq_true (by kernel_rfl)) h3 hb (fun x hx => hlt x (by simp [hx]))
  refine ⟨_, rfl, _, _, _, [], q0 ++ (q1 ++ (q2 ++ q3)), [], hW', ?_, ?_, ?_, hb.frame _, fun h => by cases h⟩
  · show DataW.TrodAll enc Tryd.prog W' _ _ _ _ _ (Rows.policyFirstSpec.fn H ([d0, d1, d2, d3] ++ [])).results _
    rw [e1]; exact trodAll_mk1 (shut_bool Tryd.underlying4 true)
  · show DataW.TrodAll enc Tryd.prog W' _ _ _ _ _ (Rows.policyFirstSpec.fn H ([d0, d1, d2, d3] ++ [])).args _
    rw [e1]; exact trodAll_mk4 g0 g1 g2 g3
  · show DataW.TrodVars enc Tryd.prog W' _ _ (Rows.policyFirstSpec.fn H ([d0, d1, d2, d3] ++ [])).vars _
    rw [e1]; rfl

theorem f_said : Rows.PolicyFirstSaid :=
  OpenClaim.holds_of_cond 6 Tryd.f6 rfl rfl rfl rfl rfl rfl rfl ⟨rfl, rfl, rfl, rfl, rfl⟩ rfl rfl rfl rfl rfl (by kernel_rfl) Tryd.func6 (by kernel_rfl)
    (of_decide_eq_true (by kernel_rfl)) (by unfold Func.isWrapper; first | (rw [if_pos (by decide +kernel)]; kernel_rfl) | (rw [if_neg (by decide +kernel)]; exact ⟨rfl, rfl⟩))
    (fun os started H enc _ F => by rw [OpenClaim.pre_eq_preRow]; exact f_lifted os started H enc F)
theorem f_plain (f : FuncId) (fn : Func) (hf : Tryd.pinned.checked.prog.funcNamed "twinrampart/twinrampartlaw1.PolicyFirst" = some f) (hfn : Tryd.pinned.checked.prog.funcs[f]? = some fn) :
    true = Tryd.pinned.checked.prog.looks [] ∧ ∀ (j : Nat) t, fn.params[j]? = some t → Tryd.pinned.checked.prog.wantsStandIn t = false := by
  obtain rfl : f = 6 := Option.some.inj ((show Tryd.prog.funcNamed "twinrampart/twinrampartlaw1.PolicyFirst" = some 6 by kernel_rfl).symm.trans hf) |>.symm
  obtain rfl : fn = Tryd.f6 := (Option.some.inj (Tryd.func6.symm.trans hfn)).symm
  refine ⟨by kernel_rfl, fun j t ht => ?_⟩
  rw [Tryd.params6] at ht
  have hm := Array.mem_of_getElem? ht
  simp only [List.mem_toArray, List.mem_cons, List.not_mem_nil, or_false] at hm
  rcases hm with rfl | rfl | rfl | rfl
  · exact (show Tryd.prog.wantsStandIn 35 = false by kernel_rfl)
  · exact (show Tryd.prog.wantsStandIn 55 = false by kernel_rfl)
  · exact (show Tryd.prog.wantsStandIn 39 = false by kernel_rfl)
  · exact (show Tryd.prog.wantsStandIn 4 = false by kernel_rfl)
theorem pfirst_card : Rows.PolicyFirstCardSaid :=
  Claim7.holds_tied_plain_at .later [] _ _ _ _ f_said (fun _ h => by cases h) (by kernel_rfl) (fun _ h => by cases h) policyFirst_row_tie rfl ⟨rfl, rfl⟩ (by kernel_rfl) rfl f_plain (by kernel_rfl)
end Go.Proofs.YtklfmlbhkijgoaaDoor
