/-
  What the claimed theorem reaches, part Q16.
-/
import Derived.WalkKit
import Derived.LaidEql
import Derived.Stop.Asserts
import Derived.RowKitTokens
import Derived.Test.YtnogmjekhjldcaaGreatDoorQ01
namespace Go.Proofs.YtnogmjekhjldcaaGreatDoor
open Go.RowKit Go.Extern.Stop Go.Stop Go.Extern Go.Proofs.Tryz
set_option maxRecDepth 100000
set_option maxHeartbeats 8000000
theorem Tryz.yu (h:Value) (w:World):(Go.method 524 332 h "Comparable").run prog w=.ok (349,h) w:=by kernel_rfl
theorem Tryz.Y5 (v:Value) (w:World):(ReflectliteType.typeOf #[.iface 359 v]).run prog w=.ok (.iface 332 (.agg #[.pointer (some (26,359))])) w:=by kernel_rfl
theorem Tryz.Ja (w:World):((ReflectliteType.method fun t=>do Rtype.noPackHeld "Comparable" t;(fun a=>Value.bool a.comparable) <$> typeInfo t) #[.agg #[.pointer (some (26,359))]]).run prog w=.ok (.bool true) w:=by kernel_rfl
theorem Tryz.agu:(prog.info? 359).map (·.comparable)=some true:=by kernel_rfl
theorem Tryz.agv:(prog.info? 361).map (·.size)=some 1:=by kernel_rfl
theorem is_same (a:Addr) (w:World) :
  Calls prog 181 #[.iface 359 (.pointer (some a)),.iface 359 (.pointer (some a))] w fun e w'=>e=.returned (.bool true)/\w'=w:=by
 obtain⟨i,h,f⟩:=Option.map_eq_some_iff.1 Tryz.agu;obtain⟨j,k,l⟩:=Option.map_eq_some_iff.1 Tryz.agv;have p:=@run_callFunc_extern prog 225 _ ReflectliteType.typeOf func225 kr kr kr kr;have m:=@run_callFunc_extern prog 349 _ (ReflectliteType.method fun t=>do Rtype.noPackHeld "Comparable" t;pure (.bool (<- typeInfo t).comparable)) func349 kr kr kr kr;have q := Tryz.Y5;have s := Tryz.Ja;have u := Tryz.yu;have o:=run_eql_iface_ptr_same (P := prog) w a Tryz.underlying42 Tryz.underlying359 h f k;go_enter func181,ntmps181;go_wp2
 refine lq 1 ?_;rw[bM];go_wp2
 go_ret;exact⟨rfl,rfl⟩
theorem is_nil (b:Addr) (w:World) :
  Calls prog 181 #[.nilIface,.iface 359 (.pointer (some b))] w fun e w'=>e=.returned (.bool false)/\w'=w:=by
 have a:(binOp .eql 42 .nilIface (.iface 359 (.pointer (some b)))).run prog w=.ok (.bool false) w:=by kernel_rfl
 go_enter func181,ntmps181;go_wp2
 go_ret;exact⟨rfl,rfl⟩
end Go.Proofs.YtnogmjekhjldcaaGreatDoor
