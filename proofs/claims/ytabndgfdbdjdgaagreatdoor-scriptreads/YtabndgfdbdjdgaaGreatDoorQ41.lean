/-
  What the claimed theorem reaches, part Q41.
-/
import Derived.Test.YtabndgfdbdjdgaaGreatDoorQ38
import Derived.Test.YtabndgfdbdjdgaaGreatDoorQ40
import Derived.ProofKit
import Derived.LaidMore
import Derived.Lay
import Derived.OpenShut
import Derived.Stop.Joined
import Derived.SevenTiedAt
import Derived.Deep.DeepHandedRow
import Derived.Deep.DeepWitnessRowRef
import Derived.Deep.Slices
import Derived.Lib.SmallJoins
import Derived.ChangeMaps5
import Derived.Carry
import Derived.Test.YtabndgfdbdjdgaaGreatDoorQ00
namespace Go.Proofs.YtabndgfdbdjdgaaGreatDoor
open Go.ChangeShapes Go.WideShapes Go.ChangeAt Go.RowKit Go.ChangeMaps
set_option maxRecDepth 100000
set_option maxHeartbeats 8000000
theorem g_lifted (os:Os) (started:os.Started) (H:Type) (enc:TypeId×Value->H) (F:Stop.Interp) :
  ReturnsInHanded {} Tryz.checked os 3 .any ((OpenSpec.ofChange Rows.scriptReadsSpec).preRow enc Tryz.prog Tryz.f3 Rows.scriptReadsRow.domain false Rows.scriptReadsRow.laid) (((OpenSpec.ofChange Rows.scriptReadsSpec).at F).post enc Tryz.prog Tryz.f3 false true false false):=by
 obtain⟨places,hx⟩:=g_reads os enc
 refine returnsInHanded_of_row (C := Tryz.checked) (s:=OpenSpec.ofChange Rows.scriptReadsSpec) Tryz.own started (by kernel_rfl) Tryz.func3
  (witness_row_atRef (enc:=enc) (C := Tryz.checked) false (zWorld os) gArgs (World.layVars_os _ _ _) (by kernel_rfl) (by kernel_rfl) (by kernel_rfl)
   (OpenSpec.preRow_of_cond 8 hx (by kernel_rfl) (fun k hk=>by cases hk) (by kernel_rfl) (g_met os))) ?_
 intro W base args ds gs before hval0 hW _ _ _ hL hSh _
 have hval:∀(j:Nat) t v,Tryz.f3.params[j]? = some t->args[j]? = some v->Value.okWide Tryz.prog W .any base t v:=hval0
 have hW':=hW
 obtain⟨p,q,hA0,hV,rfl,hfz,hnd⟩:=hW
 have hA:DataW.TrodAll enc Tryz.prog W 0 (fun _=>true) true Tryz.f3.params.toList args.toList ds p:=hA0
 rw[Tryz.params3]at hA hval
 obtain⟨v0,v1,d0,d1,q0,q1,rfl,rfl,rfl,h0,h1⟩:=trodAll_two hA
 obtain⟨rfl,rfl⟩:=trodVars_none hV
 have hlt:∀x ∈ q0++q1,x.block < W.heap.size:=fun x hx=>hW'.lt x (List.mem_append.2 (.inl hx))
 obtain⟨x,rfl,rfl,rfl,hx0⟩:=open_string Tryz.underlying9 (hval 0 9 v0 rfl rfl) h0
 obtain⟨ws,L⟩:=open_ws (hval 1 22 v1 rfl rfl) h1
 obtain⟨s,S,Sn⟩:=g_env hL hSh
 refine(sreads_law x v1 ws s W S (g_pnm hL) Sn L).mono fun e W' ⟨he,hb⟩=>?_
 subst he
 have e1:Rows.scriptReadsSpec.fn H ([.lit (.string x.data.toList),d1]++[])={results:=[.lit (.bool true)],args:=[.lit (.string x.data.toList),d1]}:=by simp[Rows.scriptReadsSpec]
 have g1:=Below.trod (P := Tryz.prog) (t := 22) (by kernel_rfl) (by kernel_rfl) (of_decide_eq_true (by kernel_rfl)) h1 hb (fun x hx=>hlt x (by simp[hx]))
 refine⟨_,rfl,_,_,_,[],[]++q1,[],hW',?_,?_,?_,hb.frame _,fun h=>by cases h⟩
 ·show DataW.TrodAll enc Tryz.prog W' _ _ _ _ _ (Rows.scriptReadsSpec.fn H ([.lit (.string x.data.toList),d1]++[])).results _
  rw[e1];exact trodAll_mk1 (shut_bool Tryz.underlying4 true)
 ·show DataW.TrodAll enc Tryz.prog W' _ _ _ _ _ (Rows.scriptReadsSpec.fn H ([.lit (.string x.data.toList),d1]++[])).args _
  rw[e1];exact trodAll_mk2 (shut_string Tryz.underlying9 hx0) g1
 ·show DataW.TrodVars enc Tryz.prog W' _ _ (Rows.scriptReadsSpec.fn H ([.lit (.string x.data.toList),d1]++[])).vars _
  rw[e1];rfl
end Go.Proofs.YtabndgfdbdjdgaaGreatDoor
