/-
  What the claimed theorem reaches, part Q01.
-/
import Derived.Test.YtdpmeoflgpaljaaGreatDoorProg
import Derived.WalkKit
import Derived.LaidEql
import Derived.Stop.Asserts
import Derived.RowKitTokens
import Derived.Test.YtdpmeoflgpaljaaGreatDoorQ00
namespace Go.Proofs.YtdpmeoflgpaljaaGreatDoor
open Go.RowKit Go.Extern.Stop Go.Stop Go.Extern
set_option maxRecDepth 100000
set_option maxHeartbeats 8000000
theorem Tryz.xMethodComparable (h:Value) (w:World):(Go.method 442 214 h "Comparable").run Tryz.prog w=.ok (262,h) w:=by kernel_rfl
theorem Tryz.xTypeOfE (v:Value) (w:World):(ReflectliteType.typeOf #[.iface 310 v]).run Tryz.prog w=.ok (.iface 214 (.agg #[.pointer (some (14,310))])) w:=by kernel_rfl
theorem Tryz.xComparableE (w:World):((ReflectliteType.method fun t=>do Rtype.noPackHeld "Comparable" t;(fun a=>Value.bool a.comparable) <$> typeInfo t) #[.agg #[.pointer (some (14,310))]]).run Tryz.prog w=.ok (.bool true) w:=by kernel_rfl
theorem Tryz.xComp:(Tryz.prog.info? 310).map (·.comparable)=some true:=by kernel_rfl
theorem Tryz.xSize:(Tryz.prog.info? 330).map (·.size)=some 1:=by kernel_rfl
theorem Tryz.xValueOf (t:Addr) (w:World):(ReflectliteValue.unpack (.iface 155 (.pointer (some t)))).run Tryz.prog w
  = .ok (.agg #[.pointer (some (14,155)),.pointer (some (w.heap.size,0)),.int .u64 150]) (w.alloc (.cells #[.pointer (some t)] 155)):=by kernel_rfl
theorem Tryz.xType (a:Addr) (w:World):(ReflectliteValue.methodAny (ReflectliteValue.valueError "reflectlite.Value.Type" 0) (fun t _ _ _=>ReflectliteType.toType t) #[.agg #[.pointer (some (14,155)),.pointer (some a),.int .u64 150]]).run Tryz.prog w
  = .ok (.iface 214 (.agg #[.pointer (some (14,155))])) w:=by kernel_rfl
theorem Tryz.xMethodKind (h:Value) (w:World):(Go.method 442 214 (.agg #[h]) "Kind").run Tryz.prog w=.ok (249,h) w:=by kernel_rfl
theorem Tryz.xKindPP (w:World):((ReflectliteType.abiMethod fun t=>(fun a:Nat=>Value.int IntKind.u8 (a:Int)) <$> Rtype.kind t) #[.pointer (some (14,155))]).run Tryz.prog w=.ok (.int .u8 22) w:=by kernel_rfl
theorem Tryz.xKindP (w:World):((ReflectliteType.abiMethod fun t=>(fun a:Nat=>Value.int IntKind.u8 (a:Int)) <$> Rtype.kind t) #[.pointer (some (14,153))]).run Tryz.prog w=.ok (.int .u8 22) w:=by kernel_rfl
theorem Tryz.xPartsPP (a:Addr) (w:World):(ReflectliteValue.parts (.agg #[.pointer (some (14,155)),.pointer (some a),.int .u64 150])).run Tryz.prog w=.ok (some (155,a,150)) w:=by kernel_rfl
theorem Tryz.xIsNil (a p:Addr) (W:World) (ha:W.cell? a=some (.pointer (some p))) :
  (ReflectliteValue.method (ReflectliteValue.valueError "reflectlite.Value.IsNil" 0) ReflectliteValue.isNil #[.agg #[.pointer (some (14,155)),.pointer (some a),.int .u64 150]]).run Tryz.prog W=.ok (.bool false) W:=by
 change Sem.run _ (Bind.bind (ReflectliteValue.parts (.agg #[.pointer (some (14,155)),.pointer (some a),.int .u64 150])) _) _=_
 simp only[Sem.run_bind,Tryz.xPartsPP,Result.andThen]
 simp[ReflectliteValue.isNil,loadVar,isAgg,underlying,Tryz.underlying155,ha,Result.andThen]
theorem Tryz.xMethodElem (h:Value) (w:World):(Go.method 442 214 (.agg #[h]) "Elem").run Tryz.prog w=.ok (263,.agg #[h]) w:=by kernel_rfl
theorem Tryz.xMethodImplements (h:Value) (w:World):(Go.method 442 214 (.agg #[h]) "Implements").run Tryz.prog w=.ok (264,.agg #[h]) w:=by kernel_rfl
theorem Tryz.xMethodAssignableTo (h:Value) (w:World):(Go.method 442 214 (.agg #[h]) "AssignableTo").run Tryz.prog w=.ok (261,.agg #[h]) w:=by kernel_rfl
theorem Tryz.xElem (w:World):(ReflectliteType.method ReflectliteType.elem #[.agg #[.pointer (some (14,155))]]).run Tryz.prog w=.ok (.iface 214 (.agg #[.pointer (some (14,153))])) w:=by kernel_rfl
theorem Tryz.xImplements (w:World):(ReflectliteType.relation "Implements" ReflectliteType.implements_ #[.agg #[.pointer (some (14,153))],.iface 214 (.agg #[.pointer (some (14,30))])]).run Tryz.prog w=.ok (.bool true) w:=by kernel_rfl
theorem Tryz.xAssignE (w:World):(ReflectliteType.relation "AssignableTo" ReflectliteType.assignableTo #[.agg #[.pointer (some (14,310))],.iface 214 (.agg #[.pointer (some (14,153))])]).run Tryz.prog w=.ok (.bool false) w:=by kernel_rfl
theorem Tryz.xNoIsE (v:Value) (xT:TypeId) (w:World):(Instr.typeAssert (.iface 310 v) xT 216 true).run Tryz.prog w=.ok (.tuple #[.nilIface,.bool false]) w:=run_typeAssert_lacksB Tryz.underlying216 (by kernel_rfl) (by kernel_rfl) v xT w
theorem Tryz.xNoAsE (v:Value) (xT:TypeId) (w:World):(Instr.typeAssert (.iface 310 v) xT 247 true).run Tryz.prog w=.ok (.tuple #[.nilIface,.bool false]) w:=run_typeAssert_lacksB Tryz.underlying247 (by kernel_rfl) (by kernel_rfl) v xT w
theorem Tryz.xNoUnwrapE (v:Value) (xT:TypeId) (w:World):(Instr.typeAssert (.iface 310 v) xT 219 true).run Tryz.prog w=.ok (.tuple #[.nilIface,.bool false]) w:=run_typeAssert_lacksB Tryz.underlying219 (by kernel_rfl) (by kernel_rfl) v xT w
theorem Tryz.xNoUnwrapsE (v:Value) (xT:TypeId) (w:World):(Instr.typeAssert (.iface 310 v) xT 220 true).run Tryz.prog w=.ok (.tuple #[.nilIface,.bool false]) w:=run_typeAssert_lacksB Tryz.underlying220 (by kernel_rfl) (by kernel_rfl) v xT w
theorem as_miss (e t:Addr) (w:World) (hg:w.cell? (11,0)=some (.iface 214 (.agg #[.pointer (some (14,30))]))) :
  Calls Tryz.prog 81 #[.iface 310 (.pointer (some e)),.iface 155 (.pointer (some t))] w fun ev w'=>ev=.returned (.bool false)/\w'=(((w.alloc (.cells #[.pointer (some t)] 155)).alloc (.cells #[.pointer (some (14,155)),.pointer (some (w.heap.size,0)),.int .u64 150] 194)).alloc (.cells #[.pointer (some (14,155)),.pointer (some (w.heap.size,0)),.int .u64 150] 194)):=by
 have h6:=@run_callFunc_extern Tryz.prog 120 _ (fun args=>ReflectliteValue.unpack (args.getD 0 (.tuple #[]))) Tryz.func120 (by kernel_rfl) (by kernel_rfl) (by kernel_rfl) (by kernel_rfl)
 have h7:=@run_callFunc_extern Tryz.prog 121 _ (ReflectliteValue.methodAny (ReflectliteValue.valueError "reflectlite.Value.Type" 0) (fun t _ _ _=>ReflectliteType.toType t)) Tryz.func121 (by kernel_rfl) (by kernel_rfl) (by kernel_rfl) (by kernel_rfl)
 have h8:=@run_callFunc_extern Tryz.prog 122 _ (ReflectliteValue.method (ReflectliteValue.valueError "reflectlite.Value.IsNil" 0) ReflectliteValue.isNil) Tryz.func122 (by kernel_rfl) (by kernel_rfl) (by kernel_rfl) (by kernel_rfl)
 have h27:=@run_callFunc_extern Tryz.prog 249 _ (ReflectliteType.abiMethod fun t=>do pure (.int .u8 (<- Rtype.kind t))) Tryz.func249 (by kernel_rfl) (by kernel_rfl) (by kernel_rfl) (by kernel_rfl)
 have h37:=@run_callFunc_extern Tryz.prog 263 _ (ReflectliteType.method ReflectliteType.elem) Tryz.func263 (by kernel_rfl) (by kernel_rfl) (by kernel_rfl) (by kernel_rfl)
 have h38:=@run_callFunc_extern Tryz.prog 264 _ (ReflectliteType.relation "Implements" ReflectliteType.implements_) Tryz.func264 (by kernel_rfl) (by kernel_rfl) (by kernel_rfl) (by kernel_rfl)
 have h10:=@run_callFunc_extern Tryz.prog 91 _ ReflectliteType.typeOf Tryz.func91 (by kernel_rfl) (by kernel_rfl) (by kernel_rfl) (by kernel_rfl)
 have h35:=@run_callFunc_extern Tryz.prog 261 _ (ReflectliteType.relation "AssignableTo" ReflectliteType.assignableTo) Tryz.func261 (by kernel_rfl) (by kernel_rfl) (by kernel_rfl) (by kernel_rfl)
 have tO := Tryz.xTypeOfE
 have mA := Tryz.xMethodAssignableTo
 have a25 := Tryz.xAssignE
 have f6 := Tryz.xValueOf
 have f7 := Tryz.xType
 have mK := Tryz.xMethodKind
 have mE := Tryz.xMethodElem
 have mI := Tryz.xMethodImplements
 have k27 := Tryz.xKindPP
 have k25 := Tryz.xKindP
 have e27 := Tryz.xElem
 have i25 := Tryz.xImplements
 have nE := Tryz.xNoAsE
 have uE := Tryz.xNoUnwrapE
 have vE := Tryz.xNoUnwrapsE
 have n8 := Tryz.xIsNil (w.heap.size,0) t ((w.alloc (.cells #[.pointer (some t)] 155)).alloc (.cells #[.pointer (some (14,155)),.pointer (some (w.heap.size,0)),.int .u64 150] 194)) (by simp)
 have hlt : 11 < w.heap.size:=by
  rcases Nat.lt_or_ge 11 w.heap.size with h | h
  ·exact h
  ·simp[World.cell?,Array.getElem?_eq_none h]at hg
 have hg2:((w.alloc (.cells #[.pointer (some t)] 155)).alloc (.cells #[.pointer (some (14,155)),.pointer (some (w.heap.size,0)),.int .u64 150] 194)).cell? (11,0)=some (.iface 214 (.agg #[.pointer (some (14,30))])):=by
  rw[World.cell?_alloc_lt _ _ ⟨11,0,none⟩ (by simp;omega),World.cell?_alloc_lt _ _ ⟨11,0,none⟩ hlt];exact hg
 go_enter Tryz.func81,Tryz.ntmps81
 go_wp2
 refine wp_loop_rounds 1 ?_
 rw[rounds_succ]
 go_wp2
 go_ret
 exact⟨rfl,rfl⟩
theorem is_same (a:Addr) (w:World) :
  Calls Tryz.prog 43 #[.iface 310 (.pointer (some a)),.iface 310 (.pointer (some a))] w fun e w'=>e=.returned (.bool true)/\w'=w:=by
 obtain⟨i,hi,hcmp⟩:=Option.map_eq_some_iff.1 Tryz.xComp
 obtain⟨j,hj,hjs⟩:=Option.map_eq_some_iff.1 Tryz.xSize
 have h8:=@run_callFunc_extern Tryz.prog 91 _ ReflectliteType.typeOf Tryz.func91 (by kernel_rfl) (by kernel_rfl) (by kernel_rfl) (by kernel_rfl)
 have h32:=@run_callFunc_extern Tryz.prog 262 _ (ReflectliteType.method fun t=>do Rtype.noPackHeld "Comparable" t;pure (.bool (<- typeInfo t).comparable)) Tryz.func262 (by kernel_rfl) (by kernel_rfl) (by kernel_rfl) (by kernel_rfl)
 have tT := Tryz.xTypeOfE
 have cT := Tryz.xComparableE
 have mR := Tryz.xMethodComparable
 have heq:=run_eql_iface_ptr_same (P := Tryz.prog) w a Tryz.underlying30 Tryz.underlying310 hi hcmp hj
 go_enter Tryz.func43,Tryz.ntmps43
 go_wp2
 refine wp_loop_rounds 1 ?_
 rw[rounds_succ]
 go_wp2
 go_ret
 exact⟨rfl,rfl⟩
end Go.Proofs.YtdpmeoflgpaljaaGreatDoor
