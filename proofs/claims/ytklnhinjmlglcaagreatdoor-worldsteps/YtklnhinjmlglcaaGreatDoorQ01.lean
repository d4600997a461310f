/-
  What the claimed theorem reaches, part Q01.
-/
import Derived.Test.YtklnhinjmlglcaaGreatDoorProg
import Derived.WalkKit
import Derived.LaidEql
import Derived.Stop.Asserts
import Derived.RowKitTokens
import Derived.Test.YtklnhinjmlglcaaGreatDoorQ00
namespace Go.Proofs.YtklnhinjmlglcaaGreatDoor
open Go.RowKit Go.Extern.Stop Go.Stop Go.Extern
set_option maxRecDepth 100000
set_option maxHeartbeats 8000000
theorem Tryz.xMethodComparable (h:Value) (w:World):(Go.method 439 229 h "Comparable").run Tryz.prog w=.ok (248,h) w:=by kernel_rfl
theorem Tryz.xTypeOfE (v:Value) (w:World):(ReflectliteType.typeOf #[.iface 307 v]).run Tryz.prog w=.ok (.iface 229 (.agg #[.pointer (some (12,307))])) w:=by kernel_rfl
theorem Tryz.xComparableE (w:World):((ReflectliteType.method fun t=>do Rtype.noPackHeld "Comparable" t;(fun a=>Value.bool a.comparable) <$> typeInfo t) #[.agg #[.pointer (some (12,307))]]).run Tryz.prog w=.ok (.bool true) w:=by kernel_rfl
theorem Tryz.xComp:(Tryz.prog.info? 307).map (·.comparable)=some true:=by kernel_rfl
theorem Tryz.xSize:(Tryz.prog.info? 327).map (·.size)=some 1:=by kernel_rfl
theorem Tryz.xValueOf (t:Addr) (w:World):(ReflectliteValue.unpack (.iface 131 (.pointer (some t)))).run Tryz.prog w
  = .ok (.agg #[.pointer (some (12,131)),.pointer (some (w.heap.size,0)),.int .u64 150]) (w.alloc (.cells #[.pointer (some t)] 131)):=by kernel_rfl
theorem Tryz.xType (a:Addr) (w:World):(ReflectliteValue.methodAny (ReflectliteValue.valueError "reflectlite.Value.Type" 0) (fun t _ _ _=>ReflectliteType.toType t) #[.agg #[.pointer (some (12,131)),.pointer (some a),.int .u64 150]]).run Tryz.prog w
  = .ok (.iface 229 (.agg #[.pointer (some (12,131))])) w:=by kernel_rfl
theorem Tryz.xMethodKind (h:Value) (w:World):(Go.method 439 229 (.agg #[h]) "Kind").run Tryz.prog w=.ok (234,h) w:=by kernel_rfl
theorem Tryz.xKindPP (w:World):((ReflectliteType.abiMethod fun t=>(fun a:Nat=>Value.int IntKind.u8 (a:Int)) <$> Rtype.kind t) #[.pointer (some (12,131))]).run Tryz.prog w=.ok (.int .u8 22) w:=by kernel_rfl
theorem Tryz.xKindP (w:World):((ReflectliteType.abiMethod fun t=>(fun a:Nat=>Value.int IntKind.u8 (a:Int)) <$> Rtype.kind t) #[.pointer (some (12,129))]).run Tryz.prog w=.ok (.int .u8 22) w:=by kernel_rfl
theorem Tryz.xPartsPP (a:Addr) (w:World):(ReflectliteValue.parts (.agg #[.pointer (some (12,131)),.pointer (some a),.int .u64 150])).run Tryz.prog w=.ok (some (131,a,150)) w:=by kernel_rfl
theorem Tryz.xIsNil (a p:Addr) (W:World) (ha:W.cell? a=some (.pointer (some p))) :
  (ReflectliteValue.method (ReflectliteValue.valueError "reflectlite.Value.IsNil" 0) ReflectliteValue.isNil #[.agg #[.pointer (some (12,131)),.pointer (some a),.int .u64 150]]).run Tryz.prog W=.ok (.bool false) W:=by
 change Sem.run _ (Bind.bind (ReflectliteValue.parts (.agg #[.pointer (some (12,131)),.pointer (some a),.int .u64 150])) _) _=_
 simp only[Sem.run_bind,Tryz.xPartsPP,Result.andThen]
 simp[ReflectliteValue.isNil,loadVar,isAgg,underlying,Tryz.underlying131,ha,Result.andThen]
theorem Tryz.xMethodElem (h:Value) (w:World):(Go.method 439 229 (.agg #[h]) "Elem").run Tryz.prog w=.ok (249,.agg #[h]) w:=by kernel_rfl
theorem Tryz.xMethodImplements (h:Value) (w:World):(Go.method 439 229 (.agg #[h]) "Implements").run Tryz.prog w=.ok (250,.agg #[h]) w:=by kernel_rfl
theorem Tryz.xMethodAssignableTo (h:Value) (w:World):(Go.method 439 229 (.agg #[h]) "AssignableTo").run Tryz.prog w=.ok (247,.agg #[h]) w:=by kernel_rfl
theorem Tryz.xElem (w:World):(ReflectliteType.method ReflectliteType.elem #[.agg #[.pointer (some (12,131))]]).run Tryz.prog w=.ok (.iface 229 (.agg #[.pointer (some (12,129))])) w:=by kernel_rfl
theorem Tryz.xImplements (w:World):(ReflectliteType.relation "Implements" ReflectliteType.implements_ #[.agg #[.pointer (some (12,129))],.iface 229 (.agg #[.pointer (some (12,28))])]).run Tryz.prog w=.ok (.bool true) w:=by kernel_rfl
theorem Tryz.xTypeOfF (v:Value) (w:World):(ReflectliteType.typeOf #[.iface 129 v]).run Tryz.prog w=.ok (.iface 229 (.agg #[.pointer (some (12,129))])) w:=by kernel_rfl
theorem Tryz.xAssignF (w:World):(ReflectliteType.relation "AssignableTo" ReflectliteType.assignableTo #[.agg #[.pointer (some (12,129))],.iface 229 (.agg #[.pointer (some (12,129))])]).run Tryz.prog w=.ok (.bool true) w:=by kernel_rfl
theorem Tryz.xAssignE (w:World):(ReflectliteType.relation "AssignableTo" ReflectliteType.assignableTo #[.agg #[.pointer (some (12,307))],.iface 229 (.agg #[.pointer (some (12,129))])]).run Tryz.prog w=.ok (.bool false) w:=by kernel_rfl
theorem Tryz.xValueOfF (e:Addr) (w:World):(ReflectliteValue.unpack (.iface 129 (.pointer (some e)))).run Tryz.prog w
  = .ok (.agg #[.pointer (some (12,129)),.pointer (some (w.heap.size,0)),.int .u64 150]) (w.alloc (.cells #[.pointer (some e)] 129)):=by kernel_rfl
theorem Tryz.xElemOf (w:World):(Rtype.elem? 131).run Tryz.prog w=.ok (some 129) w:=by kernel_rfl
theorem Tryz.xMk (p:Addr) (w:World):(ReflectliteValue.mk 129 p ReflectliteValue.flagAddr).run Tryz.prog w=.ok (.agg #[.pointer (some (12,129)),.pointer (some p),.int .u64 406]) w:=by kernel_rfl
theorem Tryz.xElemV (a p:Addr) (W:World) (ha:W.cell? a=some (.pointer (some p))) :
  (ReflectliteValue.method (ReflectliteValue.valueError "reflectlite.Value.Elem" 0) ReflectliteValue.elem #[.agg #[.pointer (some (12,131)),.pointer (some a),.int .u64 150]]).run Tryz.prog W
   = .ok (.agg #[.pointer (some (12,129)),.pointer (some p),.int .u64 406]) W:=by
 change Sem.run _ (Bind.bind (ReflectliteValue.parts (.agg #[.pointer (some (12,131)),.pointer (some a),.int .u64 150])) _) _=_
 simp only[Sem.run_bind,Tryz.xPartsPP,Result.andThen]
 simp[ReflectliteValue.elem,loadVar,isAgg,underlying,Tryz.underlying131,ha,Result.andThen,Tryz.xElemOf,Tryz.xMk]
theorem Tryz.xPartsFa (a:Addr) (w:World):(ReflectliteValue.parts (.agg #[.pointer (some (12,129)),.pointer (some a),.int .u64 406])).run Tryz.prog w=.ok (some (129,a,406)) w:=by kernel_rfl
theorem Tryz.xPartsF (a:Addr) (w:World):(ReflectliteValue.parts (.agg #[.pointer (some (12,129)),.pointer (some a),.int .u64 150])).run Tryz.prog w=.ok (some (129,a,150)) w:=by kernel_rfl
theorem Tryz.xDirect (w:World):(Rtype.directlyAssignable 129 129).run Tryz.prog w=.ok true w:=by kernel_rfl
theorem Tryz.xSet (ta b e:Addr) (old:Value) (W:World) (hb:W.cell? b=some (.pointer (some e))) (ht:W.cell? ta=some old) (hf:W.frozen? ta=false) :
  (ReflectliteValue.set #[.agg #[.pointer (some (12,129)),.pointer (some ta),.int .u64 406],.agg #[.pointer (some (12,129)),.pointer (some b),.int .u64 150]]).run Tryz.prog W
   = .ok (.tuple #[]) (W.setCell ta (.pointer (some e))):=by
 change Sem.run _ (Bind.bind (ReflectliteValue.parts (.agg #[.pointer (some (12,129)),.pointer (some ta),.int .u64 406])) fun q=>Bind.bind (ReflectliteValue.parts (.agg #[.pointer (some (12,129)),.pointer (some b),.int .u64 150])) fun r=>_) _=_
 simp only[Sem.run_bind,Tryz.xPartsFa,Tryz.xPartsF,Result.andThen]
 simp[ReflectliteValue.flagAddr,loadVar,isAgg,underlying,Tryz.underlying129,hb,Result.andThen,Tryz.xDirect,storeVar,Value.cells,storeCells,Addr.add]
 rw[run_store Tryz.prog W ta _ _ (by rfl)]
 simp[ht,hf]
theorem Tryz.xNoIsE (v:Value) (xT:TypeId) (w:World):(Instr.typeAssert (.iface 307 v) xT 231 true).run Tryz.prog w=.ok (.tuple #[.nilIface,.bool false]) w:=run_typeAssert_lacksB Tryz.underlying231 (by kernel_rfl) (by kernel_rfl) v xT w
theorem Tryz.xNoAsE (v:Value) (xT:TypeId) (w:World):(Instr.typeAssert (.iface 307 v) xT 248 true).run Tryz.prog w=.ok (.tuple #[.nilIface,.bool false]) w:=run_typeAssert_lacksB Tryz.underlying248 (by kernel_rfl) (by kernel_rfl) v xT w
theorem Tryz.xNoUnwrapE (v:Value) (xT:TypeId) (w:World):(Instr.typeAssert (.iface 307 v) xT 234 true).run Tryz.prog w=.ok (.tuple #[.nilIface,.bool false]) w:=run_typeAssert_lacksB Tryz.underlying234 (by kernel_rfl) (by kernel_rfl) v xT w
theorem Tryz.xNoUnwrapsE (v:Value) (xT:TypeId) (w:World):(Instr.typeAssert (.iface 307 v) xT 235 true).run Tryz.prog w=.ok (.tuple #[.nilIface,.bool false]) w:=run_typeAssert_lacksB Tryz.underlying235 (by kernel_rfl) (by kernel_rfl) v xT w
theorem Tryz.xNoIsF (v:Value) (xT:TypeId) (w:World):(Instr.typeAssert (.iface 129 v) xT 231 true).run Tryz.prog w=.ok (.tuple #[.nilIface,.bool false]) w:=run_typeAssert_lacksB Tryz.underlying231 (by kernel_rfl) (by kernel_rfl) v xT w
theorem Tryz.xHasUnwrapF (v:Value) (xT:TypeId) (w:World):(Instr.typeAssert (.iface 129 v) xT 234 true).run Tryz.prog w=.ok (.tuple #[.iface 129 v,.bool true]) w:=run_typeAssert_hasB Tryz.underlying234 (by kernel_rfl) v xT w
theorem Tryz.xMethodUnwrap (v:Value) (w:World):(Go.method 439 129 v "Unwrap").run Tryz.prog w=.ok (241,v) w:=by kernel_rfl
theorem as_hit (e t:Addr) (old:Value) (w:World) (hg:w.cell? (11,0)=some (.iface 229 (.agg #[.pointer (some (12,28))]))) (ht0:w.cell? t=some old) (hf0:w.frozen? t=false) :
  Calls Tryz.prog 69 #[.iface 129 (.pointer (some e)),.iface 131 (.pointer (some t))] w fun ev w'=>ev=.returned (.bool true)/\w'=((((w.alloc (.cells #[.pointer (some t)] 131)).alloc (.cells #[.pointer (some (12,131)),.pointer (some (w.heap.size,0)),.int .u64 150] 189)).alloc (.cells #[.pointer (some (12,131)),.pointer (some (w.heap.size,0)),.int .u64 150] 189)).alloc (.cells #[.pointer (some e)] 129)).setCell t (.pointer (some e)):=by
 have h6:=@run_callFunc_extern Tryz.prog 106 _ (fun args=>ReflectliteValue.unpack (args.getD 0 (.tuple #[]))) Tryz.func106 (by kernel_rfl) (by kernel_rfl) (by kernel_rfl) (by kernel_rfl)
 have h7:=@run_callFunc_extern Tryz.prog 107 _ (ReflectliteValue.methodAny (ReflectliteValue.valueError "reflectlite.Value.Type" 0) (fun t _ _ _=>ReflectliteType.toType t)) Tryz.func107 (by kernel_rfl) (by kernel_rfl) (by kernel_rfl) (by kernel_rfl)
 have h8:=@run_callFunc_extern Tryz.prog 108 _ (ReflectliteValue.method (ReflectliteValue.valueError "reflectlite.Value.IsNil" 0) ReflectliteValue.isNil) Tryz.func108 (by kernel_rfl) (by kernel_rfl) (by kernel_rfl) (by kernel_rfl)
 have h27:=@run_callFunc_extern Tryz.prog 234 _ (ReflectliteType.abiMethod fun t=>do pure (.int .u8 (<- Rtype.kind t))) Tryz.func234 (by kernel_rfl) (by kernel_rfl) (by kernel_rfl) (by kernel_rfl)
 have h37:=@run_callFunc_extern Tryz.prog 249 _ (ReflectliteType.method ReflectliteType.elem) Tryz.func249 (by kernel_rfl) (by kernel_rfl) (by kernel_rfl) (by kernel_rfl)
 have h38:=@run_callFunc_extern Tryz.prog 250 _ (ReflectliteType.relation "Implements" ReflectliteType.implements_) Tryz.func250 (by kernel_rfl) (by kernel_rfl) (by kernel_rfl) (by kernel_rfl)
 have h10:=@run_callFunc_extern Tryz.prog 98 _ ReflectliteType.typeOf Tryz.func98 (by kernel_rfl) (by kernel_rfl) (by kernel_rfl) (by kernel_rfl)
 have h35:=@run_callFunc_extern Tryz.prog 247 _ (ReflectliteType.relation "AssignableTo" ReflectliteType.assignableTo) Tryz.func247 (by kernel_rfl) (by kernel_rfl) (by kernel_rfl) (by kernel_rfl)
 have h11:=@run_callFunc_extern Tryz.prog 156 _ (ReflectliteValue.method (ReflectliteValue.valueError "reflectlite.Value.Elem" 0) ReflectliteValue.elem) Tryz.func156 (by kernel_rfl) (by kernel_rfl) (by kernel_rfl) (by kernel_rfl)
 have h12:=@run_callFunc_extern Tryz.prog 157 _ ReflectliteValue.set Tryz.func157 (by kernel_rfl) (by kernel_rfl) (by kernel_rfl) (by kernel_rfl)
 have tO := Tryz.xTypeOfF
 have mA := Tryz.xMethodAssignableTo
 have a25 := Tryz.xAssignF
 have v25 := Tryz.xValueOfF
 have f6 := Tryz.xValueOf
 have f7 := Tryz.xType
 have mK := Tryz.xMethodKind
 have mE := Tryz.xMethodElem
 have mI := Tryz.xMethodImplements
 have k27 := Tryz.xKindPP
 have k25 := Tryz.xKindP
 have e27 := Tryz.xElem
 have i25 := Tryz.xImplements
 have n8 := Tryz.xIsNil (w.heap.size,0) t ((w.alloc (.cells #[.pointer (some t)] 131)).alloc (.cells #[.pointer (some (12,131)),.pointer (some (w.heap.size,0)),.int .u64 150] 189)) (by simp)
 have hlt : 11 < w.heap.size:=by
  rcases Nat.lt_or_ge 11 w.heap.size with h | h
  ·exact h
  ·simp[World.cell?,Array.getElem?_eq_none h]at hg
 have hg2:((w.alloc (.cells #[.pointer (some t)] 131)).alloc (.cells #[.pointer (some (12,131)),.pointer (some (w.heap.size,0)),.int .u64 150] 189)).cell? (11,0)=some (.iface 229 (.agg #[.pointer (some (12,28))])):=by
  rw[World.cell?_alloc_lt _ _ ⟨11,0,none⟩ (by simp;omega),World.cell?_alloc_lt _ _ ⟨11,0,none⟩ hlt];exact hg
 have htl:t.block < w.heap.size:=by
  rcases Nat.lt_or_ge t.block w with h | h
  ·exact h
  ·simp[World.cell?,Array.getElem?_eq_none h]at ht0
 have el := Tryz.xElemV (w.heap.size,0) t (((w.alloc (.cells #[.pointer (some t)] 131)).alloc (.cells #[.pointer (some (12,131)),.pointer (some (w.heap.size,0)),.int .u64 150] 189)).alloc (.cells #[.pointer (some (12,131)),.pointer (some (w.heap.size,0)),.int .u64 150] 189)) (by rw[World.cell?_alloc_lt _ _ ⟨w.heap.size,0,none⟩ (by simp;omega)];simp)
 have st := Tryz.xSet t (w.heap.size+1+1+1,0) e old ((((w.alloc (.cells #[.pointer (some t)] 131)).alloc (.cells #[.pointer (some (12,131)),.pointer (some (w.heap.size,0)),.int .u64 150] 189)).alloc (.cells #[.pointer (some (12,131)),.pointer (some (w.heap.size,0)),.int .u64 150] 189)).alloc (.cells #[.pointer (some e)] 129))
  (by rw[World.cell?_alloc_at _ _ _ _ (by simp)];rfl)
  (by rw[World.cell?_alloc_lt _ _ t (by simp;omega),World.cell?_alloc_lt _ _ t (by simp;omega),World.cell?_alloc_lt _ _ t (by simp;omega),World.cell?_alloc_lt _ _ t htl];exact ht0)
  (by rw[World.frozen?_alloc_old _ _ t (by simp;omega),World.frozen?_alloc_old _ _ t (by simp;omega),World.frozen?_alloc_old _ _ t (by simp;omega),World.frozen?_alloc_old _ _ t (Nat.ne_of_lt htl)];exact hf0)
 go_enter Tryz.func69,Tryz.ntmps69
 go_wp2
 refine wp_loop_rounds 1 ?_
 rw[rounds_succ]
 go_wp2
 go_ret
 exact⟨rfl,rfl⟩
theorem as_miss (e t:Addr) (w:World) (hg:w.cell? (11,0)=some (.iface 229 (.agg #[.pointer (some (12,28))]))) :
  Calls Tryz.prog 69 #[.iface 307 (.pointer (some e)),.iface 131 (.pointer (some t))] w fun ev w'=>ev=.returned (.bool false)/\w'=(((w.alloc (.cells #[.pointer (some t)] 131)).alloc (.cells #[.pointer (some (12,131)),.pointer (some (w.heap.size,0)),.int .u64 150] 189)).alloc (.cells #[.pointer (some (12,131)),.pointer (some (w.heap.size,0)),.int .u64 150] 189)):=by
 have h6:=@run_callFunc_extern Tryz.prog 106 _ (fun args=>ReflectliteValue.unpack (args.getD 0 (.tuple #[]))) Tryz.func106 (by kernel_rfl) (by kernel_rfl) (by kernel_rfl) (by kernel_rfl)
 have h7:=@run_callFunc_extern Tryz.prog 107 _ (ReflectliteValue.methodAny (ReflectliteValue.valueError "reflectlite.Value.Type" 0) (fun t _ _ _=>ReflectliteType.toType t)) Tryz.func107 (by kernel_rfl) (by kernel_rfl) (by kernel_rfl) (by kernel_rfl)
 have h8:=@run_callFunc_extern Tryz.prog 108 _ (ReflectliteValue.method (ReflectliteValue.valueError "reflectlite.Value.IsNil" 0) ReflectliteValue.isNil) Tryz.func108 (by kernel_rfl) (by kernel_rfl) (by kernel_rfl) (by kernel_rfl)
 have h27:=@run_callFunc_extern Tryz.prog 234 _ (ReflectliteType.abiMethod fun t=>do pure (.int .u8 (<- Rtype.kind t))) Tryz.func234 (by kernel_rfl) (by kernel_rfl) (by kernel_rfl) (by kernel_rfl)
 have h37:=@run_callFunc_extern Tryz.prog 249 _ (ReflectliteType.method ReflectliteType.elem) Tryz.func249 (by kernel_rfl) (by kernel_rfl) (by kernel_rfl) (by kernel_rfl)
 have h38:=@run_callFunc_extern Tryz.prog 250 _ (ReflectliteType.relation "Implements" ReflectliteType.implements_) Tryz.func250 (by kernel_rfl) (by kernel_rfl) (by kernel_rfl) (by kernel_rfl)
 have h10:=@run_callFunc_extern Tryz.prog 98 _ ReflectliteType.typeOf Tryz.func98 (by kernel_rfl) (by kernel_rfl) (by kernel_rfl) (by kernel_rfl)
 have h35:=@run_callFunc_extern Tryz.prog 247 _ (ReflectliteType.relation "AssignableTo" ReflectliteType.assignableTo) Tryz.func247 (by kernel_rfl) (by kernel_rfl) (by kernel_rfl) (by kernel_rfl)
 have tO := Tryz.xTypeOfE
 have mA := Tryz.xMethodAssignableTo
 have a25 := Tryz.xAssignE
 have f6 := Tryz.xValueOf
 have f7 := Tryz.xType
 have mK := Tryz.xMethodKind
 have mE := Tryz.xMethodElem
 have mI := Tryz.xMethodImplements
 have k27 := Tryz.xKindPP
 have k25 := Tryz.xKindP
 have e27 := Tryz.xElem
 have i25 := Tryz.xImplements
 have nE := Tryz.xNoAsE
 have uE := Tryz.xNoUnwrapE
 have vE := Tryz.xNoUnwrapsE
 have n8 := Tryz.xIsNil (w.heap.size,0) t ((w.alloc (.cells #[.pointer (some t)] 131)).alloc (.cells #[.pointer (some (12,131)),.pointer (some (w.heap.size,0)),.int .u64 150] 189)) (by simp)
 have hlt : 11 < w.heap.size:=by
  rcases Nat.lt_or_ge 11 w.heap.size with h | h
  ·exact h
  ·simp[World.cell?,Array.getElem?_eq_none h]at hg
 have hg2:((w.alloc (.cells #[.pointer (some t)] 131)).alloc (.cells #[.pointer (some (12,131)),.pointer (some (w.heap.size,0)),.int .u64 150] 189)).cell? (11,0)=some (.iface 229 (.agg #[.pointer (some (12,28))])):=by
  rw[World.cell?_alloc_lt _ _ ⟨11,0,none⟩ (by simp;omega),World.cell?_alloc_lt _ _ ⟨11,0,none⟩ hlt];exact hg
 go_enter Tryz.func69,Tryz.ntmps69
 go_wp2
 refine wp_loop_rounds 1 ?_
 rw[rounds_succ]
 go_wp2
 go_ret
 exact⟨rfl,rfl⟩
theorem is_same (a:Addr) (w:World) :
  Calls Tryz.prog 51 #[.iface 307 (.pointer (some a)),.iface 307 (.pointer (some a))] w fun e w'=>e=.returned (.bool true)/\w'=w:=by
 obtain⟨i,hi,hcmp⟩:=Option.map_eq_some_iff.1 Tryz.xComp
 obtain⟨j,hj,hjs⟩:=Option.map_eq_some_iff.1 Tryz.xSize
 have h8:=@run_callFunc_extern Tryz.prog 98 _ ReflectliteType.typeOf Tryz.func98 (by kernel_rfl) (by kernel_rfl) (by kernel_rfl) (by kernel_rfl)
 have h32:=@run_callFunc_extern Tryz.prog 248 _ (ReflectliteType.method fun t=>do Rtype.noPackHeld "Comparable" t;pure (.bool (<- typeInfo t).comparable)) Tryz.func248 (by kernel_rfl) (by kernel_rfl) (by kernel_rfl) (by kernel_rfl)
 have tT := Tryz.xTypeOfE
 have cT := Tryz.xComparableE
 have mR := Tryz.xMethodComparable
 have heq:=run_eql_iface_ptr_same (P := Tryz.prog) w a Tryz.underlying28 Tryz.underlying307 hi hcmp hj
 go_enter Tryz.func51,Tryz.ntmps51
 go_wp2
 refine wp_loop_rounds 1 ?_
 rw[rounds_succ]
 go_wp2
 go_ret
 exact⟨rfl,rfl⟩
end Go.Proofs.YtklnhinjmlglcaaGreatDoor
