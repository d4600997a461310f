/-
  What the claimed theorem reaches, part Q32.
-/
import Derived.Test.YtabndgfdbdjdgaaGreatDoorQ20
import Derived.WalkKit
import Derived.LaidEql
import Derived.Stop.Asserts
import Derived.RowKitTokens
import Derived.Test.YtabndgfdbdjdgaaGreatDoorQ00
import Derived.Below
import Derived.Test.YtabndgfdbdjdgaaGreatDoorQ24
namespace Go.Proofs.YtabndgfdbdjdgaaGreatDoor
open Go.RowKit Go.Extern.Stop Go.Stop Go.Extern
set_option maxRecDepth 100000
set_option maxHeartbeats 8000000
theorem Tryz.xValueOf (t:Addr) (w:World):(ReflectliteValue.unpack (.iface 82 (.pointer (some t)))).run Tryz.prog w
  = .ok (.agg #[.pointer (some (27,82)),.pointer (some (w.heap.size,0)),.int .u64 150]) (w.alloc (.cells #[.pointer (some t)] 82)):=by kernel_rfl
theorem Tryz.xType (a:Addr) (w:World):(ReflectliteValue.methodAny (ReflectliteValue.valueError "reflectlite.Value.Type" 0) (fun t _ _ _=>ReflectliteType.toType t) #[.agg #[.pointer (some (27,82)),.pointer (some a),.int .u64 150]]).run Tryz.prog w
  = .ok (.iface 195 (.agg #[.pointer (some (27,82))])) w:=by kernel_rfl
theorem Tryz.xMethodKind (h:Value) (w:World):(Go.method 475 195 (.agg #[h]) "Kind").run Tryz.prog w=.ok (272,h) w:=by kernel_rfl
theorem Tryz.xKindPP (w:World):((ReflectliteType.abiMethod fun t=>(fun a:Nat=>Value.int IntKind.u8 (a:Int)) <$> Rtype.kind t) #[.pointer (some (27,82))]).run Tryz.prog w=.ok (.int .u8 22) w:=by kernel_rfl
theorem Tryz.xKindP (w:World):((ReflectliteType.abiMethod fun t=>(fun a:Nat=>Value.int IntKind.u8 (a:Int)) <$> Rtype.kind t) #[.pointer (some (27,67))]).run Tryz.prog w=.ok (.int .u8 22) w:=by kernel_rfl
theorem Tryz.xPartsPP (a:Addr) (w:World):(ReflectliteValue.parts (.agg #[.pointer (some (27,82)),.pointer (some a),.int .u64 150])).run Tryz.prog w=.ok (some (82,a,150)) w:=by kernel_rfl
theorem Tryz.xIsNil (a p:Addr) (W:World) (ha:W.cell? a=some (.pointer (some p))) :
  (ReflectliteValue.method (ReflectliteValue.valueError "reflectlite.Value.IsNil" 0) ReflectliteValue.isNil #[.agg #[.pointer (some (27,82)),.pointer (some a),.int .u64 150]]).run Tryz.prog W=.ok (.bool false) W:=by
 change Sem.run _ (Bind.bind (ReflectliteValue.parts (.agg #[.pointer (some (27,82)),.pointer (some a),.int .u64 150])) _) _=_
 simp only[Sem.run_bind,Tryz.xPartsPP,Result.andThen]
 simp[ReflectliteValue.isNil,loadVar,isAgg,underlying,Tryz.underlying82,ha,Result.andThen]
theorem Tryz.xMethodElem (h:Value) (w:World):(Go.method 475 195 (.agg #[h]) "Elem").run Tryz.prog w=.ok (285,.agg #[h]) w:=by kernel_rfl
theorem Tryz.xMethodImplements (h:Value) (w:World):(Go.method 475 195 (.agg #[h]) "Implements").run Tryz.prog w=.ok (286,.agg #[h]) w:=by kernel_rfl
theorem Tryz.xMethodAssignableTo (h:Value) (w:World):(Go.method 475 195 (.agg #[h]) "AssignableTo").run Tryz.prog w=.ok (283,.agg #[h]) w:=by kernel_rfl
theorem Tryz.xElem (w:World):(ReflectliteType.method ReflectliteType.elem #[.agg #[.pointer (some (27,82))]]).run Tryz.prog w=.ok (.iface 195 (.agg #[.pointer (some (27,67))])) w:=by kernel_rfl
theorem Tryz.xImplements (w:World):(ReflectliteType.relation "Implements" ReflectliteType.implements_ #[.agg #[.pointer (some (27,67))],.iface 195 (.agg #[.pointer (some (27,25))])]).run Tryz.prog w=.ok (.bool true) w:=by kernel_rfl
theorem Tryz.xTypeOfF (v:Value) (w:World):(ReflectliteType.typeOf #[.iface 67 v]).run Tryz.prog w=.ok (.iface 195 (.agg #[.pointer (some (27,67))])) w:=by kernel_rfl
theorem Tryz.xAssignF (w:World):(ReflectliteType.relation "AssignableTo" ReflectliteType.assignableTo #[.agg #[.pointer (some (27,67))],.iface 195 (.agg #[.pointer (some (27,67))])]).run Tryz.prog w=.ok (.bool true) w:=by kernel_rfl
theorem Tryz.xAssignE (w:World):(ReflectliteType.relation "AssignableTo" ReflectliteType.assignableTo #[.agg #[.pointer (some (27,312))],.iface 195 (.agg #[.pointer (some (27,67))])]).run Tryz.prog w=.ok (.bool false) w:=by kernel_rfl
theorem Tryz.xValueOfF (e:Addr) (w:World):(ReflectliteValue.unpack (.iface 67 (.pointer (some e)))).run Tryz.prog w
  = .ok (.agg #[.pointer (some (27,67)),.pointer (some (w.heap.size,0)),.int .u64 150]) (w.alloc (.cells #[.pointer (some e)] 67)):=by kernel_rfl
theorem Tryz.xElemOf (w:World):(Rtype.elem? 82).run Tryz.prog w=.ok (some 67) w:=by kernel_rfl
theorem Tryz.xMk (p:Addr) (w:World):(ReflectliteValue.mk 67 p ReflectliteValue.flagAddr).run Tryz.prog w=.ok (.agg #[.pointer (some (27,67)),.pointer (some p),.int .u64 406]) w:=by kernel_rfl
theorem Tryz.xElemV (a p:Addr) (W:World) (ha:W.cell? a=some (.pointer (some p))) :
  (ReflectliteValue.method (ReflectliteValue.valueError "reflectlite.Value.Elem" 0) ReflectliteValue.elem #[.agg #[.pointer (some (27,82)),.pointer (some a),.int .u64 150]]).run Tryz.prog W
   = .ok (.agg #[.pointer (some (27,67)),.pointer (some p),.int .u64 406]) W:=by
 change Sem.run _ (Bind.bind (ReflectliteValue.parts (.agg #[.pointer (some (27,82)),.pointer (some a),.int .u64 150])) _) _=_
 simp only[Sem.run_bind,Tryz.xPartsPP,Result.andThen]
 simp[ReflectliteValue.elem,loadVar,isAgg,underlying,Tryz.underlying82,ha,Result.andThen,Tryz.xElemOf,Tryz.xMk]
theorem Tryz.xPartsFa (a:Addr) (w:World):(ReflectliteValue.parts (.agg #[.pointer (some (27,67)),.pointer (some a),.int .u64 406])).run Tryz.prog w=.ok (some (67,a,406)) w:=by kernel_rfl
theorem Tryz.xPartsF (a:Addr) (w:World):(ReflectliteValue.parts (.agg #[.pointer (some (27,67)),.pointer (some a),.int .u64 150])).run Tryz.prog w=.ok (some (67,a,150)) w:=by kernel_rfl
theorem Tryz.xDirect (w:World):(Rtype.directlyAssignable 67 67).run Tryz.prog w=.ok true w:=by kernel_rfl
theorem Tryz.xSet (ta b e:Addr) (old:Value) (W:World) (hb:W.cell? b=some (.pointer (some e))) (ht:W.cell? ta=some old) (hf:W.frozen? ta=false) :
  (ReflectliteValue.set #[.agg #[.pointer (some (27,67)),.pointer (some ta),.int .u64 406],.agg #[.pointer (some (27,67)),.pointer (some b),.int .u64 150]]).run Tryz.prog W
   = .ok (.tuple #[]) (W.setCell ta (.pointer (some e))):=by
 change Sem.run _ (Bind.bind (ReflectliteValue.parts (.agg #[.pointer (some (27,67)),.pointer (some ta),.int .u64 406])) fun q=>Bind.bind (ReflectliteValue.parts (.agg #[.pointer (some (27,67)),.pointer (some b),.int .u64 150])) fun r=>_) _=_
 simp only[Sem.run_bind,Tryz.xPartsFa,Tryz.xPartsF,Result.andThen]
 simp[ReflectliteValue.flagAddr,loadVar,isAgg,underlying,Tryz.underlying67,hb,Result.andThen,Tryz.xDirect,storeVar,Value.cells,storeCells,Addr.add]
 rw[run_store Tryz.prog W ta _ _ (by rfl)]
 simp[ht,hf]
theorem Tryz.xNoIsE (v:Value) (xT:TypeId) (w:World):(Instr.typeAssert (.iface 312 v) xT 206 true).run Tryz.prog w=.ok (.tuple #[.nilIface,.bool false]) w:=run_typeAssert_lacksB Tryz.underlying206 (by kernel_rfl) (by kernel_rfl) v xT w
theorem Tryz.xNoAsE (v:Value) (xT:TypeId) (w:World):(Instr.typeAssert (.iface 312 v) xT 199 true).run Tryz.prog w=.ok (.tuple #[.nilIface,.bool false]) w:=run_typeAssert_lacksB Tryz.underlying199 (by kernel_rfl) (by kernel_rfl) v xT w
theorem Tryz.xNoUnwrapE (v:Value) (xT:TypeId) (w:World):(Instr.typeAssert (.iface 312 v) xT 202 true).run Tryz.prog w=.ok (.tuple #[.nilIface,.bool false]) w:=run_typeAssert_lacksB Tryz.underlying202 (by kernel_rfl) (by kernel_rfl) v xT w
theorem Tryz.xNoUnwrapsE (v:Value) (xT:TypeId) (w:World):(Instr.typeAssert (.iface 312 v) xT 204 true).run Tryz.prog w=.ok (.tuple #[.nilIface,.bool false]) w:=run_typeAssert_lacksB Tryz.underlying204 (by kernel_rfl) (by kernel_rfl) v xT w
theorem Tryz.xNoIsF (v:Value) (xT:TypeId) (w:World):(Instr.typeAssert (.iface 67 v) xT 206 true).run Tryz.prog w=.ok (.tuple #[.nilIface,.bool false]) w:=run_typeAssert_lacksB Tryz.underlying206 (by kernel_rfl) (by kernel_rfl) v xT w
theorem Tryz.xHasUnwrapF (v:Value) (xT:TypeId) (w:World):(Instr.typeAssert (.iface 67 v) xT 202 true).run Tryz.prog w=.ok (.tuple #[.iface 67 v,.bool true]) w:=run_typeAssert_hasB Tryz.underlying202 (by kernel_rfl) v xT w
theorem Tryz.xMethodUnwrap (v:Value) (w:World):(Go.method 475 67 v "Unwrap").run Tryz.prog w=.ok (276,v) w:=by kernel_rfl
theorem as_hit (e t:Addr) (old:Value) (w:World) (hg:w.cell? (11,0)=some (.iface 195 (.agg #[.pointer (some (27,25))]))) (ht0:w.cell? t=some old) (hf0:w.frozen? t=false) :
  Calls Tryz.prog 31 #[.iface 67 (.pointer (some e)),.iface 82 (.pointer (some t))] w fun ev w'=>ev=.returned (.bool true)/\w'=((((w.alloc (.cells #[.pointer (some t)] 82)).alloc (.cells #[.pointer (some (27,82)),.pointer (some (w.heap.size,0)),.int .u64 150] 145)).alloc (.cells #[.pointer (some (27,82)),.pointer (some (w.heap.size,0)),.int .u64 150] 145)).alloc (.cells #[.pointer (some e)] 67)).setCell t (.pointer (some e)):=by
 have h6:=@run_callFunc_extern Tryz.prog 83 _ (fun args=>ReflectliteValue.unpack (args.getD 0 (.tuple #[]))) Tryz.func83 (by kernel_rfl) (by kernel_rfl) (by kernel_rfl) (by kernel_rfl)
 have h7:=@run_callFunc_extern Tryz.prog 84 _ (ReflectliteValue.methodAny (ReflectliteValue.valueError "reflectlite.Value.Type" 0) (fun t _ _ _=>ReflectliteType.toType t)) Tryz.func84 (by kernel_rfl) (by kernel_rfl) (by kernel_rfl) (by kernel_rfl)
 have h8:=@run_callFunc_extern Tryz.prog 85 _ (ReflectliteValue.method (ReflectliteValue.valueError "reflectlite.Value.IsNil" 0) ReflectliteValue.isNil) Tryz.func85 (by kernel_rfl) (by kernel_rfl) (by kernel_rfl) (by kernel_rfl)
 have h27:=@run_callFunc_extern Tryz.prog 272 _ (ReflectliteType.abiMethod fun t=>do pure (.int .u8 (<- Rtype.kind t))) Tryz.func272 (by kernel_rfl) (by kernel_rfl) (by kernel_rfl) (by kernel_rfl)
 have h37:=@run_callFunc_extern Tryz.prog 285 _ (ReflectliteType.method ReflectliteType.elem) Tryz.func285 (by kernel_rfl) (by kernel_rfl) (by kernel_rfl) (by kernel_rfl)
 have h38:=@run_callFunc_extern Tryz.prog 286 _ (ReflectliteType.relation "Implements" ReflectliteType.implements_) Tryz.func286 (by kernel_rfl) (by kernel_rfl) (by kernel_rfl) (by kernel_rfl)
 have h10:=@run_callFunc_extern Tryz.prog 87 _ ReflectliteType.typeOf Tryz.func87 (by kernel_rfl) (by kernel_rfl) (by kernel_rfl) (by kernel_rfl)
 have h35:=@run_callFunc_extern Tryz.prog 283 _ (ReflectliteType.relation "AssignableTo" ReflectliteType.assignableTo) Tryz.func283 (by kernel_rfl) (by kernel_rfl) (by kernel_rfl) (by kernel_rfl)
 have h11:=@run_callFunc_extern Tryz.prog 128 _ (ReflectliteValue.method (ReflectliteValue.valueError "reflectlite.Value.Elem" 0) ReflectliteValue.elem) Tryz.func128 (by kernel_rfl) (by kernel_rfl) (by kernel_rfl) (by kernel_rfl)
 have h12:=@run_callFunc_extern Tryz.prog 129 _ ReflectliteValue.set Tryz.func129 (by kernel_rfl) (by kernel_rfl) (by kernel_rfl) (by kernel_rfl)
 have tO := Tryz.xTypeOfF
 have mA := Tryz.xMethodAssignableTo
 have a25 := Tryz.xAssignF
 have v25 := Tryz.xValueOfF
 have f6 := Tryz.xValueOf
 have f7 := Tryz.xType
 have mK := Tryz.xMethodKind
 have mE := Tryz.xMethodElem
 have mI := Tryz.xMethodImplements
 have k27 := Tryz.xKindPP
 have k25 := Tryz.xKindP
 have e27 := Tryz.xElem
 have i25 := Tryz.xImplements
 have n8 := Tryz.xIsNil (w.heap.size,0) t ((w.alloc (.cells #[.pointer (some t)] 82)).alloc (.cells #[.pointer (some (27,82)),.pointer (some (w.heap.size,0)),.int .u64 150] 145)) (by simp)
 have hlt : 11 < w.heap.size:=by
  rcases Nat.lt_or_ge 11 w.heap.size with h | h
  ·exact h
  ·simp[World.cell?,Array.getElem?_eq_none h]at hg
 have hg2:((w.alloc (.cells #[.pointer (some t)] 82)).alloc (.cells #[.pointer (some (27,82)),.pointer (some (w.heap.size,0)),.int .u64 150] 145)).cell? (11,0)=some (.iface 195 (.agg #[.pointer (some (27,25))])):=by
  rw[World.cell?_alloc_lt _ _ ⟨11,0,none⟩ (by simp;omega),World.cell?_alloc_lt _ _ ⟨11,0,none⟩ hlt];exact hg
 have htl:t.block < w.heap.size:=by
  rcases Nat.lt_or_ge t.block w with h | h
  ·exact h
  ·simp[World.cell?,Array.getElem?_eq_none h]at ht0
 have el := Tryz.xElemV (w.heap.size,0) t (((w.alloc (.cells #[.pointer (some t)] 82)).alloc (.cells #[.pointer (some (27,82)),.pointer (some (w.heap.size,0)),.int .u64 150] 145)).alloc (.cells #[.pointer (some (27,82)),.pointer (some (w.heap.size,0)),.int .u64 150] 145)) (by rw[World.cell?_alloc_lt _ _ ⟨w.heap.size,0,none⟩ (by simp;omega)];simp)
 have st := Tryz.xSet t (w.heap.size+1+1+1,0) e old ((((w.alloc (.cells #[.pointer (some t)] 82)).alloc (.cells #[.pointer (some (27,82)),.pointer (some (w.heap.size,0)),.int .u64 150] 145)).alloc (.cells #[.pointer (some (27,82)),.pointer (some (w.heap.size,0)),.int .u64 150] 145)).alloc (.cells #[.pointer (some e)] 67))
  (by rw[World.cell?_alloc_at _ _ _ _ (by simp)];rfl)
  (by rw[World.cell?_alloc_lt _ _ t (by simp;omega),World.cell?_alloc_lt _ _ t (by simp;omega),World.cell?_alloc_lt _ _ t (by simp;omega),World.cell?_alloc_lt _ _ t htl];exact ht0)
  (by rw[World.frozen?_alloc_old _ _ t (by simp;omega),World.frozen?_alloc_old _ _ t (by simp;omega),World.frozen?_alloc_old _ _ t (by simp;omega),World.frozen?_alloc_old _ _ t (Nat.ne_of_lt htl)];exact hf0)
 go_enter Tryz.func31,Tryz.ntmps31
 go_wp2
 refine wp_loop_rounds 1 ?_
 rw[rounds_succ]
 go_wp2
 go_ret
 exact⟨rfl,rfl⟩
theorem as_miss (e t:Addr) (w:World) (hg:w.cell? (11,0)=some (.iface 195 (.agg #[.pointer (some (27,25))]))) :
  Calls Tryz.prog 31 #[.iface 312 (.pointer (some e)),.iface 82 (.pointer (some t))] w fun ev w'=>ev=.returned (.bool false)/\w'=(((w.alloc (.cells #[.pointer (some t)] 82)).alloc (.cells #[.pointer (some (27,82)),.pointer (some (w.heap.size,0)),.int .u64 150] 145)).alloc (.cells #[.pointer (some (27,82)),.pointer (some (w.heap.size,0)),.int .u64 150] 145)):=by
 have h6:=@run_callFunc_extern Tryz.prog 83 _ (fun args=>ReflectliteValue.unpack (args.getD 0 (.tuple #[]))) Tryz.func83 (by kernel_rfl) (by kernel_rfl) (by kernel_rfl) (by kernel_rfl)
 have h7:=@run_callFunc_extern Tryz.prog 84 _ (ReflectliteValue.methodAny (ReflectliteValue.valueError "reflectlite.Value.Type" 0) (fun t _ _ _=>ReflectliteType.toType t)) Tryz.func84 (by kernel_rfl) (by kernel_rfl) (by kernel_rfl) (by kernel_rfl)
 have h8:=@run_callFunc_extern Tryz.prog 85 _ (ReflectliteValue.method (ReflectliteValue.valueError "reflectlite.Value.IsNil" 0) ReflectliteValue.isNil) Tryz.func85 (by kernel_rfl) (by kernel_rfl) (by kernel_rfl) (by kernel_rfl)
 have h27:=@run_callFunc_extern Tryz.prog 272 _ (ReflectliteType.abiMethod fun t=>do pure (.int .u8 (<- Rtype.kind t))) Tryz.func272 (by kernel_rfl) (by kernel_rfl) (by kernel_rfl) (by kernel_rfl)
 have h37:=@run_callFunc_extern Tryz.prog 285 _ (ReflectliteType.method ReflectliteType.elem) Tryz.func285 (by kernel_rfl) (by kernel_rfl) (by kernel_rfl) (by kernel_rfl)
 have h38:=@run_callFunc_extern Tryz.prog 286 _ (ReflectliteType.relation "Implements" ReflectliteType.implements_) Tryz.func286 (by kernel_rfl) (by kernel_rfl) (by kernel_rfl) (by kernel_rfl)
 have h10:=@run_callFunc_extern Tryz.prog 87 _ ReflectliteType.typeOf Tryz.func87 (by kernel_rfl) (by kernel_rfl) (by kernel_rfl) (by kernel_rfl)
 have h35:=@run_callFunc_extern Tryz.prog 283 _ (ReflectliteType.relation "AssignableTo" ReflectliteType.assignableTo) Tryz.func283 (by kernel_rfl) (by kernel_rfl) (by kernel_rfl) (by kernel_rfl)
 have tO := Tryz.xTypeOfE
 have mA := Tryz.xMethodAssignableTo
 have a25 := Tryz.xAssignE
 have f6 := Tryz.xValueOf
 have f7 := Tryz.xType
 have mK := Tryz.xMethodKind
 have mE := Tryz.xMethodElem
 have mI := Tryz.xMethodImplements
 have k27 := Tryz.xKindPP
 have k25 := Tryz.xKindP
 have e27 := Tryz.xElem
 have i25 := Tryz.xImplements
 have nE := Tryz.xNoAsE
 have uE := Tryz.xNoUnwrapE
 have vE := Tryz.xNoUnwrapsE
 have n8 := Tryz.xIsNil (w.heap.size,0) t ((w.alloc (.cells #[.pointer (some t)] 82)).alloc (.cells #[.pointer (some (27,82)),.pointer (some (w.heap.size,0)),.int .u64 150] 145)) (by simp)
 have hlt : 11 < w.heap.size:=by
  rcases Nat.lt_or_ge 11 w.heap.size with h | h
  ·exact h
  ·simp[World.cell?,Array.getElem?_eq_none h]at hg
 have hg2:((w.alloc (.cells #[.pointer (some t)] 82)).alloc (.cells #[.pointer (some (27,82)),.pointer (some (w.heap.size,0)),.int .u64 150] 145)).cell? (11,0)=some (.iface 195 (.agg #[.pointer (some (27,25))])):=by
  rw[World.cell?_alloc_lt _ _ ⟨11,0,none⟩ (by simp;omega),World.cell?_alloc_lt _ _ ⟨11,0,none⟩ hlt];exact hg
 go_enter Tryz.func31,Tryz.ntmps31
 go_wp2
 refine wp_loop_rounds 1 ?_
 rw[rounds_succ]
 go_wp2
 go_ret
 exact⟨rfl,rfl⟩
theorem is_other (a b:Addr) (ca cb:Array Value) (ta tb:TypeId) (w:World) (hne:a≠b) (ha:w.heap[a.block]? = some (.cells ca ta (0,0))) (hb:w.heap[b.block]? = some (.cells cb tb (0,0))) :
  Calls Tryz.prog 32 #[.iface 312 (.pointer (some a)),.iface 312 (.pointer (some b))] w fun e w'=>e=.returned (.bool false)/\w'=w:=by
 obtain⟨i,hi,hcmp⟩:=Option.map_eq_some_iff.1 Tryz.xComp
 obtain⟨j,hj,hjs⟩:=Option.map_eq_some_iff.1 Tryz.xSize
 have h8:=@run_callFunc_extern Tryz.prog 87 _ ReflectliteType.typeOf Tryz.func87 (by kernel_rfl) (by kernel_rfl) (by kernel_rfl) (by kernel_rfl)
 have h32:=@run_callFunc_extern Tryz.prog 284 _ (ReflectliteType.method fun t=>do Rtype.noPackHeld "Comparable" t;pure (.bool (<- typeInfo t).comparable)) Tryz.func284 (by kernel_rfl) (by kernel_rfl) (by kernel_rfl) (by kernel_rfl)
 have tT := Tryz.xTypeOfE
 have cT := Tryz.xComparableE
 have mR := Tryz.xMethodComparable
 have nE := Tryz.xNoIsE
 have uE := Tryz.xNoUnwrapE
 have vE := Tryz.xNoUnwrapsE
 have heq:=run_eql_iface_ptr_other (P := Tryz.prog) w Tryz.underlying25 Tryz.underlying312 hi hcmp hj (by rw[hjs];decide) hne ha hb
 go_enter Tryz.func32,Tryz.ntmps32
 go_wp2
 refine wp_loop_rounds 1 ?_
 rw[rounds_succ]
 go_wp2
 go_ret
 exact⟨rfl,rfl⟩
theorem is_fault_same (pb po:Nat) (b:Addr) (w:World) (h1:w.cell? (pb,po+1)=some (.iface 312 (.pointer (some b)))) :
  Calls Tryz.prog 32 #[.iface 67 (.pointer (some (pb,po))),.iface 312 (.pointer (some b))] w fun e w'=>e=.returned (.bool true)/\w'=w:=by
 obtain⟨i,hi,hcmp⟩:=Option.map_eq_some_iff.1 Tryz.xComp
 obtain⟨j,hj,hjs⟩:=Option.map_eq_some_iff.1 Tryz.xSize
 have h8:=@run_callFunc_extern Tryz.prog 87 _ ReflectliteType.typeOf Tryz.func87 (by kernel_rfl) (by kernel_rfl) (by kernel_rfl) (by kernel_rfl)
 have h32:=@run_callFunc_extern Tryz.prog 284 _ (ReflectliteType.method fun t=>do Rtype.noPackHeld "Comparable" t;pure (.bool (<- typeInfo t).comparable)) Tryz.func284 (by kernel_rfl) (by kernel_rfl) (by kernel_rfl) (by kernel_rfl)
 have tT := Tryz.xTypeOfE
 have cT := Tryz.xComparableE
 have mR := Tryz.xMethodComparable
 have nW := Tryz.xNoIsF
 have uW := Tryz.xHasUnwrapF
 have mU := Tryz.xMethodUnwrap
 have heq:=run_eql_iface_ptr_same (P := Tryz.prog) w b Tryz.underlying25 Tryz.underlying312 hi hcmp hj
 have hty:=run_eql_iface_types (P := Tryz.prog) 67 312 (.pointer (some (pb,po))) (.pointer (some b)) Tryz.underlying25 (by decide) w
 go_enter Tryz.func32,Tryz.ntmps32
 go_wp2
 refine wp_loop_rounds 2 ?_
 rw[rounds_succ]
 go_wp2
 rw[rounds_succ]
 go_wp2
 go_ret
 exact⟨rfl,rfl⟩
theorem is_fault_other (pb po:Nat) (b a:Addr) (ca cb:Array Value) (ta tb:TypeId) (w:World) (h1:w.cell? (pb,po+1)=some (.iface 312 (.pointer (some a)))) (hne:a≠b) (ha:w.heap[a.block]? = some (.cells ca ta (0,0))) (hb:w.heap[b.block]? = some (.cells cb tb (0,0))) :
  Calls Tryz.prog 32 #[.iface 67 (.pointer (some (pb,po))),.iface 312 (.pointer (some b))] w fun e w'=>e=.returned (.bool false)/\w'=w:=by
 obtain⟨i,hi,hcmp⟩:=Option.map_eq_some_iff.1 Tryz.xComp
 obtain⟨j,hj,hjs⟩:=Option.map_eq_some_iff.1 Tryz.xSize
 have h8:=@run_callFunc_extern Tryz.prog 87 _ ReflectliteType.typeOf Tryz.func87 (by kernel_rfl) (by kernel_rfl) (by kernel_rfl) (by kernel_rfl)
 have h32:=@run_callFunc_extern Tryz.prog 284 _ (ReflectliteType.method fun t=>do Rtype.noPackHeld "Comparable" t;pure (.bool (<- typeInfo t).comparable)) Tryz.func284 (by kernel_rfl) (by kernel_rfl) (by kernel_rfl) (by kernel_rfl)
 have tT := Tryz.xTypeOfE
 have cT := Tryz.xComparableE
 have mR := Tryz.xMethodComparable
 have nE := Tryz.xNoIsE
 have uE := Tryz.xNoUnwrapE
 have vE := Tryz.xNoUnwrapsE
 have nW := Tryz.xNoIsF
 have uW := Tryz.xHasUnwrapF
 have mU := Tryz.xMethodUnwrap
 have heq:=run_eql_iface_ptr_other (P := Tryz.prog) w Tryz.underlying25 Tryz.underlying312 hi hcmp hj (by rw[hjs];decide) hne ha hb
 have hty:=run_eql_iface_types (P := Tryz.prog) 67 312 (.pointer (some (pb,po))) (.pointer (some b)) Tryz.underlying25 (by decide) w
 go_enter Tryz.func32,Tryz.ntmps32
 go_wp2
 refine wp_loop_rounds 2 ?_
 rw[rounds_succ]
 go_wp2
 rw[rounds_succ]
 go_wp2
 go_ret
 exact⟨rfl,rfl⟩
structure Sents (w:World) (s:Nat->Addr):Prop where
 et:w.cell? (11,0)=some (.iface 195 (.agg #[.pointer (some (27,25))]))
 c0:w.cell? (1,0)=some (.iface 312 (.pointer (some (s 0))))
 c1:w.cell? (0,0)=some (.iface 312 (.pointer (some (s 1))))
 c2:w.cell? (2,0)=some (.iface 312 (.pointer (some (s 2))))
 c3:w.cell? (3,0)=some (.iface 312 (.pointer (some (s 3))))
 c4:w.cell? (4,0)=some (.iface 312 (.pointer (some (s 4))))
 c5:w.cell? (5,0)=some (.iface 312 (.pointer (some (s 5))))
 c6:w.cell? (6,0)=some (.iface 312 (.pointer (some (s 6))))
 c7:w.cell? (7,0)=some (.iface 312 (.pointer (some (s 7))))
 c8:w.cell? (8,0)=some (.iface 312 (.pointer (some (s 8))))
 c9:w.cell? (9,0)=some (.iface 312 (.pointer (some (s 9))))
 c10:w.cell? (10,0)=some (.iface 312 (.pointer (some (s 10))))
 row:∀i,i < 11->∃c t,w.heap[(s i).block]? = some (.cells c t (0,0))
 ne:∀i j,i < 11->j < 11->i≠j->s i≠s j
theorem Sents.below {w w':World} {s:Nat->Addr} (S:Sents w s) (hb:Below w w w'):Sents w' s where
 et:=below_keeps hb S.et
 c0:=below_keeps hb S.c0
 c1:=below_keeps hb S.c1
 c2:=below_keeps hb S.c2
 c3:=below_keeps hb S.c3
 c4:=below_keeps hb S.c4
 c5:=below_keeps hb S.c5
 c6:=below_keeps hb S.c6
 c7:=below_keeps hb S.c7
 c8:=below_keeps hb S.c8
 c9:=below_keeps hb S.c9
 c10:=below_keeps hb S.c10
 row:=fun i hi=>by
  obtain⟨c,t,h⟩:=S.row i hi
  refine⟨c,t,?_⟩
  rw[hb.block _ (by
   rcases Nat.lt_or_ge (s i).block w with h' | h'
   ·exact h'
   ·simp[Array.getElem?_eq_none h']at h)]
  exact h
 ne:=S.ne
abbrev sentArr (s:Nat->Addr):Array Value:=#[.iface 312 (.pointer (some (s 0))),.iface 312 (.pointer (some (s 1))),.iface 312 (.pointer (some (s 2))),.iface 312 (.pointer (some (s 3))),.iface 312 (.pointer (some (s 4))),.iface 312 (.pointer (some (s 5))),.iface 312 (.pointer (some (s 6))),.iface 312 (.pointer (some (s 7))),.iface 312 (.pointer (some (s 8))),.iface 312 (.pointer (some (s 9))),.iface 312 (.pointer (some (s 10)))]
theorem sent_cell (s:Nat->Addr) (w:World) (j:Nat) (h:j < 11):(w.alloc (.cells (sentArr s) 25)).cell? (w.heap.size,j)=some (.iface 312 (.pointer (some (s j)))):=by
 rw[World.cell?_alloc_at _ _ _ _ rfl]
 match j,h with
 | 0,_=>rfl
 | 1,_=>rfl
 | 2,_=>rfl
 | 3,_=>rfl
 | 4,_=>rfl
 | 5,_=>rfl
 | 6,_=>rfl
 | 7,_=>rfl
 | 8,_=>rfl
 | 9,_=>rfl
 | 10,_=>rfl
theorem as_missB (e t:Addr) (w:World) (hg:w.cell? (11,0)=some (.iface 195 (.agg #[.pointer (some (27,25))]))) :
  Calls Tryz.prog 31 #[.iface 312 (.pointer (some e)),.iface 82 (.pointer (some t))] w fun ev w'=>ev=.returned (.bool false)/\Below w w w' :=
 (as_miss e t w hg).mono fun _ _ ⟨h1,h2⟩=>⟨h1,by
  rw[h2];exact(((Below.refl _ _).alloc (Nat.le_refl _) _).alloc (by simp) _).alloc (by simp;omega) _⟩
theorem code_nil (w:World):Calls Tryz.prog 20 #[.nilIface] w fun e w'=>e=.returned (.tuple #[.int .i64 0,.int .i64 (-1)])/\w'=w:=by
 go_enter Tryz.func20,Tryz.ntmps20
 go_wp2
 go_ret2
 exact⟨rfl,rfl⟩
theorem as_hitB (B:Nat) (e t:Addr) (old:Value) (w:World) (hg:w.cell? (11,0)=some (.iface 195 (.agg #[.pointer (some (27,25))]))) (ht0:w.cell? t=some old) (hf0:w.frozen? t=false) (hB:B<=w.heap.size) (hBt:B<=t.block) :
  Calls Tryz.prog 31 #[.iface 67 (.pointer (some e)),.iface 82 (.pointer (some t))] w fun ev w'=>ev=.returned (.bool true)/\Below B w w'/\w'.cell? t=some (.pointer (some e)) :=
 (as_hit e t old w hg ht0 hf0).mono fun _ _ ⟨h1,h2⟩=>by
  have hl:=block_lt ht0
  refine⟨h1,?_,?_⟩
  ·rw[h2];exact(((((Below.refl _ _).alloc hB _).alloc (by simp;omega) _).alloc (by simp;omega) _).alloc (by simp;omega) _).setCell hBt _
  ·rw[h2];refine World.cell?_setCell_same _ _ _ (u:=old) ?_
   rw[World.cell?_alloc_lt _ _ t (by simp;omega),World.cell?_alloc_lt _ _ t (by simp;omega),World.cell?_alloc_lt _ _ t (by simp;omega),World.cell?_alloc_lt _ _ t hl];exact ht0
theorem code_sent (k:Nat) (hk:k < 11) (s:Nat->Addr) (w:World) (S:Sents w s) :
  Calls Tryz.prog 20 #[.iface 312 (.pointer (some (s k)))] w fun e w'=>e=.returned (.tuple #[.int .i64 ((k:Int)+1),.int .i64 (-1)])/\Below w w w':=by
 have hS:Hid (Sents w s):=S
 clear S
 go_enter Tryz.func20,Tryz.ntmps20
 go_wp2_with fail
 refine(as_missB _ _ _ ?_).mono ?_
 ·exact(hS.out.below ((Below.refl _ _).alloc (Nat.le_refl _) _)).et
 rintro e w1 ⟨rfl,hb⟩
 have S1:Sents w1 s:=(hS.out.below ((Below.refl _ _).alloc (Nat.le_refl _) _)).below hb
 have d0:=S1.c0
 have d1:=S1.c1
 have d2:=S1.c2
 have d3:=S1.c3
 have d4:=S1.c4
 have d5:=S1.c5
 have d6:=S1.c6
 have d7:=S1.c7
 have d8:=S1.c8
 have d9:=S1.c9
 have d10:=S1.c10
 have hS1:Hid (Sents w1 s):=S1
 have HB:Hid (Below w w w1):=((Below.refl _ _).alloc (Nat.le_refl _) _).trans (hb.mono (by simp))
 have R:Hid (∀i,i < 11->∃c t,(w1.alloc (.cells (sentArr s) 25)).heap[(s i).block]? = some (.cells c t (0,0))):=(S1.below ((Below.refl _ _).alloc (Nat.le_refl _) _)).row
 clear S1 hb
 go_wp2_with fail
 have hcell:∀j:Nat,j < 11->(w1.alloc (.cells (sentArr s) 25)).cell? (w1.heap.size,j)=some (.iface 312 (.pointer (some (s j)))):=sent_cell s w1
 have HC:Hid (∀j:Nat,j < 11->(w1.alloc (.cells (sentArr s) 25)).cell? (w1.heap.size,j)=some (.iface 312 (.pointer (some (s j))))):=hcell
 clear hcell d0 d1 d2 d3 d4 d5 d6 d7 d8 d9 d10
 go_loop [3,29] (fun a t=>a=.int .i64 (-1)/\∃j:Nat,j<=k/\t=.int .i64 j) (fun _ t=>11 - (intOf t).toNat)
 case atStart=>exact⟨rfl,0,Nat.zero_le _,rfl⟩
 case round =>
  obtain⟨rfl,j,hj,rfl⟩:=hrel
  have hj11:j < 11:=by omega
  have hc:=HC.out j hj11
  unfold sentArr at hc
  by_cases hjk:j < k
  ·go_wp2_with fail
   refine(is_other (s k) (s j) _ _ _ _ _ (hS1.out.ne k j hk hj11 (by omega)) (R k hk).choose_spec.choose_spec (R j hj11).choose_spec.choose_spec).mono ?_
   rintro e w' ⟨rfl,rfl⟩
   go_wp2_with fail
   go_round
   case rel=>exact⟨rfl,j+1,by omega,by go_num⟩
   case measure=>simp[intOf];omega
  ·obtain rfl:j=k:=by omega
   go_wp2_with fail
   refine(is_same (s j) _).mono ?_
   rintro e w' ⟨rfl,rfl⟩
   go_wp2_with fail
   go_ret2
   exact⟨rfl,HB.alloc HB.size _⟩
theorem code_fault (k:Nat) (hk:k < 11) (pb po:Nat) (n:Int) (s:Nat->Addr) (w:World) (S:Sents w s) (hA:w.cell? (pb,po)=n) (hE:w.cell? (pb,po+1)=some (.iface 312 (.pointer (some (s k))))) :
  Calls Tryz.prog 20 #[.iface 67 (.pointer (some (pb,po)))] w fun e w'=>e=.returned (.tuple #[.int .i64 ((k:Int)+1),n])/\Below w w w':=by
 have hS:Hid (Sents w s):=S
 clear S
 have HA:Hid (w.cell? (pb,po)=n):=hA
 have HE:Hid (w.cell? (pb,po+1)=some (.iface 312 (.pointer (some (s k))))):=hE
 clear hA hE
 go_enter Tryz.func20,Tryz.ntmps20
 go_wp2_with fail
 refine(as_hitB w _ _ (.pointer none) _ ?_ (by simp) (by simp) (by simp) (by simp)).mono ?_
 ·exact(hS.out.below ((Below.refl _ _).alloc (Nat.le_refl _) _)).et
 rintro e w1 ⟨rfl,hb,ht⟩
 have HB:Hid (Below w w w1):=((Below.refl _ _).alloc (Nat.le_refl _) _).trans hb
 have S1:Sents w1 s:=hS.out.below HB
 have eA:w1.cell? (pb,po)=n:=below_keeps HB HA
 have d0:=S1.c0
 have d1:=S1.c1
 have d2:=S1.c2
 have d3:=S1.c3
 have d4:=S1.c4
 have d5:=S1.c5
 have d6:=S1.c6
 have d7:=S1.c7
 have d8:=S1.c8
 have d9:=S1.c9
 have d10:=S1.c10
 have hS1:Hid (Sents w1 s):=S1
 have FE:Hid ((w1.alloc (.cells (sentArr s) 25)).cell? (pb,po+1)=some (.iface 312 (.pointer (some (s k))))):=below_keeps (HB.alloc HB.size (.cells (sentArr s) 25)) HE
 have R:Hid (∀i,i < 11->∃c t,(w1.alloc (.cells (sentArr s) 25)).heap[(s i).block]? = some (.cells c t (0,0))):=(S1.below ((Below.refl _ _).alloc (Nat.le_refl _) _)).row
 clear S1 hb
 go_wp2_with fail
 have hcell:∀j:Nat,j < 11->(w1.alloc (.cells (sentArr s) 25)).cell? (w1.heap.size,j)=some (.iface 312 (.pointer (some (s j)))):=sent_cell s w1
 have HC:Hid (∀j:Nat,j < 11->(w1.alloc (.cells (sentArr s) 25)).cell? (w1.heap.size,j)=some (.iface 312 (.pointer (some (s j))))):=hcell
 clear hcell eA ht d0 d1 d2 d3 d4 d5 d6 d7 d8 d9 d10
 go_loop [3,29] (fun a t=>a=.int .i64 n/\∃j:Nat,j<=k/\t=.int .i64 j) (fun _ t=>11 - (intOf t).toNat)
 case atStart=>exact⟨rfl,0,Nat.zero_le _,rfl⟩
 case round =>
  obtain⟨rfl,j,hj,rfl⟩:=hrel
  have hj11:j < 11:=by omega
  have hc:=HC.out j hj11
  unfold sentArr at hc
  by_cases hjk:j < k
  ·go_wp2_with fail
   refine(is_fault_other pb po (s j) (s k) _ _ _ _ _ FE (hS1.out.ne k j hk hj11 (by omega)) (R k hk).choose_spec.choose_spec (R j hj11).choose_spec.choose_spec).mono ?_
   rintro e w' ⟨rfl,rfl⟩
   go_wp2_with fail
   go_round
   case rel=>exact⟨rfl,j+1,by omega,by go_num⟩
   case measure=>simp[intOf];omega
  ·obtain rfl:j=k:=by omega
   go_wp2_with fail
   refine(is_fault_same pb po (s j) _ FE).mono ?_
   rintro e w' ⟨rfl,rfl⟩
   go_wp2_with fail
   go_ret2
   exact⟨rfl,HB.alloc HB.size _⟩
end Go.Proofs.YtabndgfdbdjdgaaGreatDoor
