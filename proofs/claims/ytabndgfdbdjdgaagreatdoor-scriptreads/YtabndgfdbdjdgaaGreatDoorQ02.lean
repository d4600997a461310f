/-
  What the claimed theorem reaches, part Q02.
-/
import Derived.Test.YtabndgfdbdjdgaaGreatDoorProg
import Derived.WalkKit
import Derived.Below
import Derived.Laws.EntriesVeiled
import Derived.Test.YtabndgfdbdjdgaaGreatDoorQ00
import Derived.Deep.RegionHeld3
import Derived.MapFrom
import Derived.BigQuiet
import Derived.RegionTactic
import Derived.Deep.RegionWith
import Derived.Laws.Rows
import Derived.Deep.WholeRow
namespace Go.Proofs.YtabndgfdbdjdgaaGreatDoor
open Go.RowKit
set_option maxRecDepth 100000
set_option maxHeartbeats 8000000
theorem Tryz.hmf (fn:Fn) (first cap:Array Value) (w:World):(Instr.makeFunc fn first cap).run Tryz.prog w=.ok (.func fn first cap) w:=rfl
theorem onNodeAndNumber_any (fn:Fn) (first cap:Array Value) (w:World):Calls Tryz.prog 49 #[.func fn first cap] w fun e w'=>e=.returned (.agg #[.string ⟨#[83,78]⟩,.func (.func 102) #[] #[.pointer (some ⟨w.heap.size,0,none⟩)]])/\w'=(w.alloc (.cells #[.func fn first cap] 119)).alloc (.cells #[.string ⟨#[83,78]⟩,.func (.func 102) #[] #[.pointer (some ⟨w.heap.size,0,none⟩)]] 117):=by
 have hmf := Tryz.hmf
 go_enter Tryz.func49,Tryz.ntmps49
 go_wp2
 exact bodyPost_ret (v:=.agg #[.string ⟨#[83,78]⟩,.func (.func 102) #[] #[.pointer (some ⟨w.heap.size,0,none⟩)]]) (by simp[results,Tryz.results49,go_sem]) rfl ⟨rfl,rfl⟩
theorem onNumber_any (fn:Fn) (first cap:Array Value) (w:World):Calls Tryz.prog 52 #[.func fn first cap] w fun e w'=>e=.returned (.agg #[.string ⟨#[78]⟩,.func (.func 106) #[] #[.pointer (some ⟨w.heap.size,0,none⟩)]])/\w'=(w.alloc (.cells #[.func fn first cap] 114)).alloc (.cells #[.string ⟨#[78]⟩,.func (.func 106) #[] #[.pointer (some ⟨w.heap.size,0,none⟩)]] 117):=by
 have hmf := Tryz.hmf
 go_enter Tryz.func52,Tryz.ntmps52
 go_wp2
 exact bodyPost_ret (v:=.agg #[.string ⟨#[78]⟩,.func (.func 106) #[] #[.pointer (some ⟨w.heap.size,0,none⟩)]]) (by simp[results,Tryz.results52,go_sem]) rfl ⟨rfl,rfl⟩
theorem onNode_any (fn:Fn) (first cap:Array Value) (w:World):Calls Tryz.prog 56 #[.func fn first cap] w fun e w'=>e=.returned (.agg #[.string ⟨#[83]⟩,.func (.func 112) #[] #[.pointer (some ⟨w.heap.size,0,none⟩)]])/\w'=(w.alloc (.cells #[.func fn first cap] 114)).alloc (.cells #[.string ⟨#[83]⟩,.func (.func 112) #[] #[.pointer (some ⟨w.heap.size,0,none⟩)]] 117):=by
 have hmf := Tryz.hmf
 go_enter Tryz.func56,Tryz.ntmps56
 go_wp2
 exact bodyPost_ret (v:=.agg #[.string ⟨#[83]⟩,.func (.func 112) #[] #[.pointer (some ⟨w.heap.size,0,none⟩)]]) (by simp[results,Tryz.results56,go_sem]) rfl ⟨rfl,rfl⟩
theorem onPacket_any (fn:Fn) (first cap:Array Value) (w:World):Calls Tryz.prog 58 #[.func fn first cap] w fun e w'=>e=.returned (.agg #[.string ⟨#[80,65,67,75,69,84]⟩,.func (.func 114) #[] #[.pointer (some ⟨w.heap.size,0,none⟩)]])/\w'=(w.alloc (.cells #[.func fn first cap] 122)).alloc (.cells #[.string ⟨#[80,65,67,75,69,84]⟩,.func (.func 114) #[] #[.pointer (some ⟨w.heap.size,0,none⟩)]] 117):=by
 have hmf := Tryz.hmf
 go_enter Tryz.func58,Tryz.ntmps58
 go_wp2
 exact bodyPost_ret (v:=.agg #[.string ⟨#[80,65,67,75,69,84]⟩,.func (.func 114) #[] #[.pointer (some ⟨w.heap.size,0,none⟩)]]) (by simp[results,Tryz.results58,go_sem]) rfl ⟨rfl,rfl⟩
theorem telling_any (fn:Fn) (first cap:Array Value) (w:World):Calls Tryz.prog 61 #[.func fn first cap] w fun e w'=>e=.returned (.agg #[.string ⟨#[]⟩,.func (.func 118) #[] #[.pointer (some ⟨w.heap.size,0,none⟩)]])/\w'=(w.alloc (.cells #[.func fn first cap] 79)).alloc (.cells #[.string ⟨#[]⟩,.func (.func 118) #[] #[.pointer (some ⟨w.heap.size,0,none⟩)]] 117):=by
 have hmf := Tryz.hmf
 go_enter Tryz.func61,Tryz.ntmps61
 go_wp2
 exact bodyPost_ret (v:=.agg #[.string ⟨#[]⟩,.func (.func 118) #[] #[.pointer (some ⟨w.heap.size,0,none⟩)]]) (by simp[results,Tryz.results61,go_sem]) rfl ⟨rfl,rfl⟩
theorem showing_any (fn:Fn) (first cap:Array Value) (gn:Fn) (gfirst gcap:Array Value) (w:World):Calls Tryz.prog 71 #[.func fn first cap,.func gn gfirst gcap] w fun e w'=>e=.returned (.agg #[.string ⟨#[83]⟩,.func (.func 124) #[] #[.pointer (some ⟨w.heap.size,0,none⟩),.pointer (some ⟨w.heap.size+1,0,none⟩)]])/\w'=((w.alloc (.cells #[.func fn first cap] 128)).alloc (.cells #[.func gn gfirst gcap] 132)).alloc (.cells #[.string ⟨#[83]⟩,.func (.func 124) #[] #[.pointer (some ⟨w.heap.size,0,none⟩),.pointer (some ⟨w.heap.size+1,0,none⟩)]] 117):=by
 have hmf := Tryz.hmf
 go_enter Tryz.func71,Tryz.ntmps71
 go_wp2
 exact bodyPost_ret (v:=(.agg #[.string ⟨#[83]⟩,.func (.func 124) #[] #[.pointer (some ⟨w.heap.size,0,none⟩),.pointer (some ⟨w.heap.size+1,0,none⟩)]])) (by simp[results,Tryz.results71,go_sem]) rfl ⟨rfl,rfl⟩
theorem wpAnyH_inv {P:Program} {md:Region.Mode} {ops:Array Oper} {Q:Exit->Act->World->Prop} {S:World->Prop} (I:Nat->Array Bool->Act->World->Prop)
  (h0:∀l a w,I 0 l a w->Region.ready md ops l=[])
  (h1:∀n l a w,I n l a w->Region.ready md ops l=[]->Q .normal a w)
  (h2:∀n l a w,I (n+1) l a w->∀i ∈ Region.ready md ops l,wpOp P ops Q i (fun a' w'=>S w'/\I n (l.setIfInBounds i true) a' w') a w) :
  ∀n l a w,I n l a w->wpAnyH P md ops Q S n l a w
 | 0,l,a,w,h=>⟨h0 l a w h,h1 0 l a w h (h0 l a w h)⟩
 | n+1,l,a,w,h=>⟨h1 (n+1) l a w h,fun i hi=>wpOp_mono (fun a' w' k=>⟨k.1,wpAnyH_inv I h0 h1 h2 n _ a' w' k.2⟩) (h2 n l a w h i hi)⟩
def KyS (es:Array MapEntry):Prop:=∀x ∈ es.toList,∃q,x.key=.string q
theorem KyS.is {es:Array MapEntry} (h:KyS es):∀x ∈ es.toList,MapKept.IsKey .string x.key:=fun x hx=>by
 obtain⟨q,e⟩:=h x hx
 rw[e]
 trivial
theorem mput {w:World} {M:Nat} {es:Array MapEntry} {clk:Nat} (hb:w.heap[M]? = some (.map es clk)) (hk:KyS es) (k:ByteArray) (v:Value) (hn:∀x ∈ es.toList,x.key≠.string k) :
  ∃w',(Instr.mapUpdate 74 (.map (some M)) (.string k) v).run Tryz.prog w=.ok () w'/\w'.heap[M]? = some (.map (es.push ⟨.string k,v,clk⟩) (clk+1))/\w'.heap.size=w.heap.size/\(∀b,b≠M->w'.heap[b]? = w.heap[b]?)/\w'.os=w.os/\w'.tape=w.tape/\w'.output=w.output:=by
 have hd : Tryz.prog.underlying 9=some .string := Tryz.underlying9
 have hkk:MapKept.IsKey .string (.string k):=trivial
 rcases MapKept.findNow_spec hkk es.toList 0 hk.is with⟨h1,_⟩ | ⟨j,e,h1,h2,h3⟩
 ·refine⟨{w with heap:=w.heap.setIfInBounds M (.map (es.push ⟨.string k,v,clk⟩) (clk+1))},by simp[Instr.mapUpdate,run_underlying Tryz.underlying74,MapKept.run_getObj_map hb,MapKept.run_checkKey hd hkk,MapKept.run_findKey hd h1,MapKept.run_setObj_map _ hb,Result.andThen],(MapKept.heap_set hb).1,by simp,fun b hne=>?_,rfl,rfl,rfl⟩
  exact(MapKept.heap_set hb).2 b hne
 ·exact absurd h3 (hn e (List.mem_of_getElem? h2))
theorem count_set:∀(l:List Bool) (i:Nat),l[i]? = some false->(l.set i true).count false+1=l.count false
 | [],i,h=>by simp at h
 | x::r,0,h=>by
  have:x=false:=by simpa using h
  subst this
  simp
 | x::r,i+1,h=>by
  have:=count_set r i (by simpa using h)
  cases x <;> simp <;> omega
theorem count_zero:∀(l:List Bool),l.count false=0->∀i:Nat,l[i]? ≠ some false
 | [],_,i=>by simp
 | x::r,h,0=>by
  cases x
  ·simp at h
  ·simp
 | x::r,h,i+1=>by
  have:=count_zero r (by cases x <;> simp at h ⊢ <;> first | exact h | omega) i
  simpa using this
def aheadB (ops:Array Oper):Bool:=(List.range ops.size).all fun i=>match ops[i]? with | some o=>o.after.all fun e=>decide (e.on < i) | none=>true
theorem all_up {md:Region.Mode} {ops:Array Oper} (ha:aheadB ops=true) {l:Array Bool} (hs:l.size=ops.size) (hr:Region.ready md ops l=[]):∀j,j < ops.size->l.getD j true=true:=by
 intro j
 induction j using Nat.strongRecOn with
 | _ j ih =>
  intro hj
  cases hl:l.getD j true with
  | true=>rfl
  | false =>
   exfalso
   have ho:ops[j]? = some ops[j]:=Array.getElem?_eq_getElem hj
   have hm:j ∈ Region.ready md ops l:=by
    rw[mem_ready]
    refine⟨hl,ops[j],ho,fun e he _=>?_⟩
    have hlt:e.on < j:=by
     have h1:=List.all_eq_true.1 ha j (List.mem_range.2 hj)
     rw[ho]at h1
     have h2:(ops[j].after.all fun e=>decide (e.on < j))=true:=h1
     rw[Array.all_eq_true]at h2
     obtain⟨q,hq,e2⟩:=Array.mem_iff_getElem.1 he
     have:=h2 q hq
     rw[e2]at this
     simpa using this
    have h3:=ih e.on hlt (by omega)
    have h4:e.on < l.size:=by omega
    simp only[Array.getD,h4,dif_pos]at h3 ⊢
    exact h3
   rw[hr]at hm
   cases hm
def regOps (id:Nat):Code->Option (Array Oper)
 | .region i ops _=>if i=id then some ops else none
 | .seq a b=>match regOps id a with | some o=>some o | none=>regOps id b
 | .block _ c=>regOps id c
 | .scope c=>regOps id c
 | .loop c=>regOps id c
 | .cond _ a b=>match regOps id a with | some o=>some o | none=>regOps id b
 | _=>none
noncomputable def cmdOps:Array Oper:=match Tryz.f28.body with | some c=>(regOps 1 c).getD #[] | none=>#[]
theorem cmd_size:cmdOps.size=108:=by kernel_rfl
theorem cmd_ahead:aheadB cmdOps=true:=by kernel_rfl
section
variable {w w':World} {B:Nat->Prop} {v:Value}
def ky:Nat->ByteArray
 | 0=>⟨#[116,105,99,107]⟩
 | 1=>⟨#[99,117,116]⟩
 | 2=>⟨#[103,111]⟩
 | 3=>⟨#[108,111,115,101]⟩
 | 4=>⟨#[116,119,105,99,101]⟩
 | 5=>⟨#[100,111,119,110]⟩
 | 6=>⟨#[117,112]⟩
 | 7=>⟨#[105,110,115,105,100,101]⟩
 | 8=>⟨#[111,117,116,115,105,100,101]⟩
 | 9=>⟨#[97,108,108]⟩
 | 10=>⟨#[102,108,121]⟩
 | 11=>⟨#[115,119,105,116,99,104]⟩
 | 12=>⟨#[101,118,101,110,116,115]⟩
 | 13=>⟨#[97,99,116,105,118,101]⟩
 | 14=>⟨#[102,108,111,119,115]⟩
 | 15=>⟨#[109,105,114,114,111,114]⟩
 | 16=>⟨#[101,112,111,99,104]⟩
 | _=>⟨#[108,105,102,101]⟩
abbrev NewIn (w0:World):Nat->Prop:=fun q=>w0.heap.size<=q
def E1 (B:Nat->Prop) (w:World) (form:ByteArray) (cl:Nat) (fn v:Value):Prop:=∃q:Nat,B q/\v=.agg #[.string form,.func (.func cl) #[] #[.pointer (some ⟨q,0,none⟩)]]/\w.cell? ⟨q,0,none⟩=some fn
def E2 (B:Nat->Prop) (w:World) (cl:Nat) (fn gn v:Value):Prop:=∃q r:Nat,B q/\B r/\v=.agg #[.string ⟨#[83]⟩,.func (.func cl) #[] #[.pointer (some ⟨q,0,none⟩),.pointer (some ⟨r,0,none⟩)]]/\w.cell? ⟨q,0,none⟩=some fn/\w.cell? ⟨r,0,none⟩=some gn
def Ent (B:Nat->Prop) (w:World) (b wb pb:Nat):Nat->Value->Prop
 | 0,v=>E1 B w ⟨#[83,78]⟩ 102 (.func (.func 50) #[.pointer (some ⟨b,0,none⟩)] #[]) v
 | 1,v=>E1 B w ⟨#[83,78]⟩ 102 (.func (.func 51) #[.pointer (some ⟨wb,0,none⟩)] #[]) v
 | 2,v=>E1 B w ⟨#[78]⟩ 106 (.func (.func 53) #[.pointer (some ⟨wb,0,none⟩)] #[]) v
 | 3,v=>E1 B w ⟨#[78]⟩ 106 (.func (.func 54) #[.pointer (some ⟨wb,0,none⟩)] #[]) v
 | 4,v=>E1 B w ⟨#[78]⟩ 106 (.func (.func 55) #[.pointer (some ⟨wb,0,none⟩)] #[]) v
 | 5,v=>E1 B w ⟨#[83]⟩ 112 (.func (.func 57) #[.pointer (some ⟨wb,0,none⟩)] #[]) v
 | 6,v=>E1 B w ⟨#[83]⟩ 112 (.func (.func 48) #[.pointer (some ⟨wb,0,none⟩)] #[]) v
 | 7,v=>E1 B w ⟨#[80,65,67,75,69,84]⟩ 114 (.func (.func 59) #[.pointer (some ⟨wb,0,none⟩)] #[]) v
 | 8,v=>E1 B w ⟨#[80,65,67,75,69,84]⟩ 114 (.func (.func 60) #[.pointer (some ⟨wb,0,none⟩)] #[]) v
 | 9,v=>E1 B w ⟨#[]⟩ 118 (.func (.func 62) #[] #[.pointer (some ⟨pb,0,none⟩)]) v
 | 10,v=>E1 B w ⟨#[]⟩ 118 (.func (.func 65) #[] #[.pointer (some ⟨pb,0,none⟩)]) v
 | 11,v=>E1 B w ⟨#[]⟩ 118 (.func (.func 67) #[.pointer (some ⟨b,0,none⟩)] #[]) v
 | 12,v=>E1 B w ⟨#[]⟩ 118 (.func (.func 68) #[.pointer (some ⟨b,0,none⟩)] #[]) v
 | 13,v=>v=.agg #[.string ⟨#[83]⟩,.func (.func 69) #[] #[.pointer (some ⟨pb,0,none⟩)]]
 | 14,v=>E2 B w 124 (.func (.func 72) #[.pointer (some ⟨wb,0,none⟩)] #[]) (.func (.func 73) #[] #[]) v
 | 15,v=>E2 B w 124 (.func (.func 72) #[.pointer (some ⟨wb,0,none⟩)] #[]) (.func (.func 76) #[] #[]) v
 | 16,v=>E2 B w 124 (.func (.func 72) #[.pointer (some ⟨wb,0,none⟩)] #[]) (.func (.func 78) #[] #[]) v
 | _,v=>E2 B w 124 (.func (.func 72) #[.pointer (some ⟨wb,0,none⟩)] #[]) (.func (.func 80) #[] #[]) v
def Kp (w w':World):Prop:=∀a u,w.cell? a=some u->w'.cell? a=some u
theorem Kp.of (h:Below w.heap.size w w'):Kp w w':=fun a u e=>(h.cell (p:=a) (by
 rcases Nat.lt_or_ge a.block w.heap.size with k | k
 ·exact k
 ·simp[World.cell?,Array.getElem?_eq_none k]at e)).trans e
theorem Kp.trans {w2:World} (h:Kp w w') (k:Kp w' w2):Kp w w2:=fun a u e=>k a u (h a u e)
theorem E1.kp {form:ByteArray} {cl:Nat} {fn:Value} (h:E1 B w form cl fn v) (k:Kp w w'):E1 B w' form cl fn v:=by
 obtain⟨q,hq,e,c⟩:=h
 exact⟨q,hq,e,k _ _ c⟩
theorem E2.kp {cl:Nat} {fn gn:Value} (h:E2 B w cl fn gn v) (k:Kp w w'):E2 B w' cl fn gn v:=by
 obtain⟨q,r,hq,hr,e,c,d⟩:=h
 exact⟨q,r,hq,hr,e,k _ _ c,k _ _ d⟩
theorem Ent.kp {b wb pb k:Nat} (h:Ent B w b wb pb k v) (kp:Kp w w'):Ent B w' b wb pb k v:=by
 unfold Ent at *
 split at h
 all_goals first | exact E1.kp h kp | exact E2.kp h kp | exact h
theorem Kp.map {M:Nat} {es:Array MapEntry} {clk:Nat} (hb:w.heap[M]? = some (.map es clk)) (h:∀q,q≠M->w'.heap[q]? = w.heap[q]?):Kp w w':=fun a u e=>by
 have hn:a.block≠M:=fun e2=>by
  unfold World.cell? at e
  rw[e2,hb]at e
  simp at e
 rw[<- e]
 exact World.cell?_of_block (h _ hn)
end
inductive RsO where
  | val (d:Nat) (v:Value)
  | ent (d k:Nat)
  | mk
  | ins (k:Nat)
def RsO.dst:RsO->Option Nat
  | .val d _=>some d
  | .ent d _=>some d
  | .mk=>some 3
  | .ins _=>none
def tab (b wb pb:Nat):List RsO :=
  [.mk,
   .val 4 (.pointer (some ⟨b,0,none⟩)),
   .val 5 (.func (.func 50) #[.pointer (some ⟨b,0,none⟩)] #[]),
   .ent 6 0,
   .ins 0,
   .val 7 (.pointer (some ⟨b,0,none⟩)),
   .val 8 (.pointer (some ⟨b,0,none⟩)),
   .val 9 (.pointer (some ⟨b,0,none⟩)),
   .val 10 (.pointer (some ⟨wb,0,none⟩)),
   .val 11 (.func (.func 51) #[.pointer (some ⟨wb,0,none⟩)] #[]),
   .ent 12 1,
   .ins 1,
   .val 13 (.pointer (some ⟨b,0,none⟩)),
   .val 14 (.pointer (some ⟨b,0,none⟩)),
   .val 15 (.pointer (some ⟨b,0,none⟩)),
   .val 16 (.pointer (some ⟨wb,0,none⟩)),
   .val 17 (.func (.func 53) #[.pointer (some ⟨wb,0,none⟩)] #[]),
   .ent 18 2,
   .ins 2,
   .val 19 (.pointer (some ⟨b,0,none⟩)),
   .val 20 (.pointer (some ⟨b,0,none⟩)),
   .val 21 (.pointer (some ⟨b,0,none⟩)),
   .val 22 (.pointer (some ⟨wb,0,none⟩)),
   .val 23 (.func (.func 54) #[.pointer (some ⟨wb,0,none⟩)] #[]),
   .ent 24 3,
   .ins 3,
   .val 25 (.pointer (some ⟨b,0,none⟩)),
   .val 26 (.pointer (some ⟨b,0,none⟩)),
   .val 27 (.pointer (some ⟨b,0,none⟩)),
   .val 28 (.pointer (some ⟨wb,0,none⟩)),
   .val 29 (.func (.func 55) #[.pointer (some ⟨wb,0,none⟩)] #[]),
   .ent 30 4,
   .ins 4,
   .val 31 (.pointer (some ⟨b,0,none⟩)),
   .val 32 (.pointer (some ⟨b,0,none⟩)),
   .val 33 (.pointer (some ⟨b,0,none⟩)),
   .val 34 (.pointer (some ⟨wb,0,none⟩)),
   .val 35 (.func (.func 57) #[.pointer (some ⟨wb,0,none⟩)] #[]),
   .ent 36 5,
   .ins 5,
   .val 37 (.pointer (some ⟨b,0,none⟩)),
   .val 38 (.pointer (some ⟨b,0,none⟩)),
   .val 39 (.pointer (some ⟨b,0,none⟩)),
   .val 40 (.pointer (some ⟨wb,0,none⟩)),
   .val 41 (.func (.func 48) #[.pointer (some ⟨wb,0,none⟩)] #[]),
   .ent 42 6,
   .ins 6,
   .val 43 (.pointer (some ⟨b,0,none⟩)),
   .val 44 (.pointer (some ⟨b,0,none⟩)),
   .val 45 (.pointer (some ⟨b,0,none⟩)),
   .val 46 (.pointer (some ⟨wb,0,none⟩)),
   .val 47 (.func (.func 59) #[.pointer (some ⟨wb,0,none⟩)] #[]),
   .ent 48 7,
   .ins 7,
   .val 49 (.pointer (some ⟨b,0,none⟩)),
   .val 50 (.pointer (some ⟨b,0,none⟩)),
   .val 51 (.pointer (some ⟨b,0,none⟩)),
   .val 52 (.pointer (some ⟨wb,0,none⟩)),
   .val 53 (.func (.func 60) #[.pointer (some ⟨wb,0,none⟩)] #[]),
   .ent 54 8,
   .ins 8,
   .val 55 (.func (.func 62) #[] #[.pointer (some ⟨pb,0,none⟩)]),
   .ent 56 9,
   .ins 9,
   .val 57 (.func (.func 65) #[] #[.pointer (some ⟨pb,0,none⟩)]),
   .ent 58 10,
   .ins 10,
   .val 59 (.pointer (some ⟨b,0,none⟩)),
   .val 60 (.func (.func 67) #[.pointer (some ⟨b,0,none⟩)] #[]),
   .ent 61 11,
   .ins 11,
   .val 62 (.pointer (some ⟨b,0,none⟩)),
   .val 63 (.func (.func 68) #[.pointer (some ⟨b,0,none⟩)] #[]),
   .ent 64 12,
   .ins 12,
   .val 65 (.func (.func 69) #[] #[.pointer (some ⟨pb,0,none⟩)]),
   .val 66 (.agg #[.string ⟨#[83]⟩,.func (.func 69) #[] #[.pointer (some ⟨pb,0,none⟩)]]),
   .ins 13,
   .val 67 (.pointer (some ⟨b,0,none⟩)),
   .val 68 (.pointer (some ⟨b,0,none⟩)),
   .val 69 (.pointer (some ⟨b,0,none⟩)),
   .val 70 (.pointer (some ⟨wb,0,none⟩)),
   .val 71 (.func (.func 72) #[.pointer (some ⟨wb,0,none⟩)] #[]),
   .ent 72 14,
   .ins 14,
   .val 73 (.pointer (some ⟨b,0,none⟩)),
   .val 74 (.pointer (some ⟨b,0,none⟩)),
   .val 75 (.pointer (some ⟨b,0,none⟩)),
   .val 76 (.pointer (some ⟨wb,0,none⟩)),
   .val 77 (.func (.func 72) #[.pointer (some ⟨wb,0,none⟩)] #[]),
   .ent 78 15,
   .ins 15,
   .val 79 (.pointer (some ⟨b,0,none⟩)),
   .val 80 (.pointer (some ⟨b,0,none⟩)),
   .val 81 (.pointer (some ⟨b,0,none⟩)),
   .val 82 (.pointer (some ⟨wb,0,none⟩)),
   .val 83 (.func (.func 72) #[.pointer (some ⟨wb,0,none⟩)] #[]),
   .ent 84 16,
   .ins 16,
   .val 85 (.pointer (some ⟨b,0,none⟩)),
   .val 86 (.pointer (some ⟨b,0,none⟩)),
   .val 87 (.pointer (some ⟨b,0,none⟩)),
   .val 88 (.pointer (some ⟨wb,0,none⟩)),
   .val 89 (.func (.func 72) #[.pointer (some ⟨wb,0,none⟩)] #[]),
   .ent 90 17,
   .ins 17]
def dstL:List (Option Nat):=[some 3,some 4,some 5,some 6,none,some 7,some 8,some 9,some 10,some 11,some 12,none,some 13,some 14,some 15,some 16,some 17,some 18,none,some 19,some 20,some 21,some 22,some 23,some 24,none,some 25,some 26,some 27,some 28,some 29,some 30,none,some 31,some 32,some 33,some 34,some 35,some 36,none,some 37,some 38,some 39,some 40,some 41,some 42,none,some 43,some 44,some 45,some 46,some 47,some 48,none,some 49,some 50,some 51,some 52,some 53,some 54,none,some 55,some 56,none,some 57,some 58,none,some 59,some 60,some 61,none,some 62,some 63,some 64,none,some 65,some 66,none,some 67,some 68,some 69,some 70,some 71,some 72,none,some 73,some 74,some 75,some 76,some 77,some 78,none,some 79,some 80,some 81,some 82,some 83,some 84,none,some 85,some 86,some 87,some 88,some 89,some 90,none]
theorem tab_dst (b wb pb:Nat):(tab b wb pb).map RsO.dst=dstL:=rfl
def distB:Bool:=(List.range 106).all fun i=>(List.range 106).all fun j=>i==j || dstL.getD i none==none || dstL.getD i none != dstL.getD j none
theorem dist_ok:distB=true:=by kernel_rfl
def inI:Nat->Nat
  | 0=>4
  | 1=>11
  | 2=>18
  | 3=>25
  | 4=>32
  | 5=>39
  | 6=>46
  | 7=>53
  | 8=>60
  | 9=>63
  | 10=>66
  | 11=>70
  | 12=>74
  | 13=>77
  | 14=>84
  | 15=>91
  | 16=>98
  | _=>105
theorem tab_ins (b wb pb:Nat):∀k,k < 18->(tab b wb pb)[inI k]? = some (.ins k):=fun k hk=>by
  rcases(by omega:k=0\/k=1\/k=2\/k=3\/k=4\/k=5\/k=6\/k=7\/k=8\/k=9\/k=10\/k=11\/k=12\/k=13\/k=14\/k=15\/k=16\/k=17) with rfl | rfl | rfl | rfl | rfl | rfl | rfl | rfl | rfl | rfl | rfl | rfl | rfl | rfl | rfl | rfl | rfl | rfl <;> rfl
theorem dst_inj {b wb pb i j:Nat} {r r':RsO} {d:Nat} (hi:(tab b wb pb)[i]? = some r) (hj:(tab b wb pb)[j]? = some r') (h:r.dst=some d) (h':r'.dst=some d):i=j:=by
  have e1:dstL[i]? = some (some d):=by rw[<- tab_dst b wb pb,List.getElem?_map,hi];exact congrArg some h
  have e2:dstL[j]? = some (some d):=by rw[<- tab_dst b wb pb,List.getElem?_map,hj];exact congrArg some h'
  have l1:i < 106:=(List.getElem?_eq_some_iff.1 e1).1
  have l2:j < 106:=(List.getElem?_eq_some_iff.1 e2).1
  have hk:=List.all_eq_true.1 (List.all_eq_true.1 dist_ok i (List.mem_range.2 l1)) j (List.mem_range.2 l2)
  simp[e1,e2]at hk
  exact hk
section
variable {w w':World} {b:Nat}
theorem wpList_load_at {P:Program} {ops:Array Oper} {rest:List Oper} {o:Oper} {a:Act} {Q:Exit->Act->World->Prop} (hgd:o.guard=none) (ty:TypeId) (x:Operand) (ho:o.op=.load ty x)
  (u v:Value) (hx:a.eval x=u) (hl:(Instr.loadAt ty u).run P w=.ok v w) (h:wpList P ops Q rest (a.put o.dst v) w):wpList P ops Q (o::rest) a w :=
 wpList_plain hgd fun K hK=>by
  unfold Oper.wp execOp
  simp only[ho,hx,Sem.run_bind,hl,Result.andThen_ok,Sem.run_pure]
  exact hK _ _ h
theorem tlt {a:Addr} {v:Value} (hc:w.cell? a=some v):a.block < w.heap.size:=by
 rcases Nat.lt_or_ge a.block w with h | h
 ·exact h
 ·simp[World.cell?,Array.getElem?_eq_none h]at hc
theorem tk (h:Below w w w') {a:Addr} {v:Value} (hc:w.cell? a=some v):w'.cell? a=some v:=by
 rw[h.cell (p:=a) (tlt hc)];exact hc
theorem t2 {a b c:World} (h:Below a a b) (k:Below b b c):Below a a c:=h.trans (k.mono h.size)
theorem nw (w:World) (cs:Array Value) (t:TypeId) (j:Nat):(w.alloc (.cells cs t)).cell? (w.heap.size,j)=cs[j]? := cell_of_row _ _ _ _ _ _ (heap_alloc_new w _)
structure Chg (b:Nat) (w w':World):Prop where
 os:w'.os=w.os
 tape:w'.tape=w.tape
 output:w'.output=w.output
 size:w.heap.size<=w'.heap.size
 block:∀k,k < w.heap.size->k≠b->w'.heap[k]? = w.heap[k]?
theorem Chg.of (h:Below w w w'):Chg b w w':=⟨h.os,h.tape,h.output,h.size,fun k hk _=>h.block k hk⟩
theorem Chg.trans {u v:World} (h:Chg b u v) (k:Chg b v w):Chg b u w :=
 ⟨k.os.trans h.os,k.tape.trans h.tape,k.output.trans h.output,Nat.le_trans h.size k.size,fun i hi hn=>(k.block i (Nat.lt_of_lt_of_le hi h.size) hn).trans (h.block i hi hn)⟩
theorem Chg.refl (b:Nat) (w:World):Chg b w w:=Chg.of (Below.refl _ _)
theorem Chg.then {u v:World} (h:Chg b u v) (k:Below v v w):Chg b u w:=h.trans (Chg.of k)
theorem Chg.set (b j:Nat) (w:World) (u:Value):Chg b w (w.setCell (b,j) u) :=
 ⟨rfl,rfl,rfl,by simp[World.setCell],fun k _ hn=>Below.heap_setCell _ _ _ _ hn⟩
theorem Chg.below {w0:World} (h:Below w0 w0 w) (k:Chg b w w') (hb:w0.heap.size<=b):Below w0 w0 w' :=
 h.trans ⟨k.os,k.tape,k.output,k.size,fun i hi=>k.block i (Nat.lt_of_lt_of_le hi h.size) (by omega)⟩
theorem Chg.keeps (h:Chg b w w') {a:Addr} {v:Value} (hn:a.block≠b) (hc:w.cell? a=some v):w'.cell? a=some v:=by
 rw[World.cell?_of_block (w:=w) (h.block a.block (tlt hc) hn)];exact hc
def terr (s:Nat->Addr):Nat->Value
 | 0=>.nilIface
 | k+1=>.iface 312 (.pointer (some (s k)))
theorem aB (w:World) (o:Obj):Below w w (w.alloc o):=(Below.refl _ _).alloc (Nat.le_refl _) _
end
def Dn (B:Nat->Prop) (w:World) (b wb pb:Nat) (a:Act):RsO->Prop
 | .val d v=>a.tmps[d]? = some v
 | .ent d k=>∃v,a.tmps[d]? = some v/\Ent B w b wb pb k v
 | _=>True
def MpI (w0 w:World) (b wb pb:Nat) (l:Array Bool) (M:Nat):Prop :=
 ∃es clk,w.heap[M]? = some (.map es clk)/\w0.heap.size<=M/\KyS es/\(∀x ∈ es.toList,∃k,k < 18/\x.key=.string (ky k)/\l.getD (inI k) false=true/\Ent (NewIn w0) w b wb pb k x.val)/\∀k,k < 18->l.getD (inI k) false=true->∃x ∈ es.toList,x.key=.string (ky k)
structure CI (w0:World) (b wb pb n:Nat) (l:Array Bool) (a:Act) (w:World):Prop where
 ls:l.size=108
 cn:l.toList.count false=n
 ts:a.tmps.size=92
 t1:a.tmps[1]? = some (.pointer (some ⟨pb,0,none⟩))
 df:a.defers=[]
 s1:w.cell? ⟨pb,0,none⟩=some (.pointer (some ⟨b,0,none⟩))
 s2:w.cell? ⟨b,0,none⟩=some (.pointer (some ⟨wb,0,none⟩))
 bl:Below w0.heap.size w0 w
 u6:l.getD 106 true=false
 u7:l.getD 107 true=false
 z:l.getD 0 false=false->∀k,k < 18->l.getD (inI k) false=false
 d:∀j r,(tab b wb pb)[j]? = some r->l.getD j false=true->Dn (NewIn w0) w b wb pb a r
 m:l.getD 0 false=true->∃M,a.tmps[3]? = some (.map (some M))/\MpI w0 w b wb pb l M
section
variable {w0 w w':World} {b wb pb n i:Nat} {l:Array Bool} {a:Act}
theorem cnt_set (ls:l.size=108) (cn:l.toList.count false=n+1) (hi:i < 108) (hu:l.getD i true=false):(l.setIfInBounds i true).size=108/\(l.setIfInBounds i true).toList.count false=n:=by
 refine⟨by simp[ls],?_⟩
 have h1:l.toList[i]? = some false:=by
  have hl:i < l.size:=by omega
  rw[Array.getElem?_toList,Array.getElem?_eq_getElem hl]
  simpa [Array.getD,hl] using hu
 have h2:=count_set l.toList i h1
 rw[Array.toList_setIfInBounds]
 omega
theorem getF {j:Nat} (ls:l.size=108) (hj:j < 108) (h:l.getD j true=false):l.getD j false=false:=by
 have hl:j < l.size:=by omega
 simpa [Array.getD,hl] using h
theorem get_set {j:Nat} (hi:i≠j) (x:Bool):(l.setIfInBounds i true).getD j x=l.getD j x:=getD_set_ne x hi
theorem Dn.kp {r:RsO} {a a':Act} (h:Dn (NewIn w0) w b wb pb a r) (k:Kp w w') (ha:∀d,r.dst=some d->a'.tmps[d]? = a.tmps[d]?):Dn (NewIn w0) w' b wb pb a' r:=by
 cases r with
 | val d v=>exact(ha d rfl).trans h
 | ent d kk =>
  obtain⟨v,e,he⟩:=h
  exact⟨v,(ha d rfl).trans e,he.kp k⟩
 | mk=>trivial
 | ins kk=>trivial
theorem MpI.kp {M:Nat} (h:MpI w0 w b wb pb l M) (k:Kp w w') (hm:∀(M:Nat) es clk,w.heap[M]? = some (Obj.map es clk)->w'.heap[M]? = some (Obj.map es clk)) (hl:∀k,k < 18->(l.setIfInBounds i true).getD (inI k) false=l.getD (inI k) false):MpI w0 w' b wb pb (l.setIfInBounds i true) M:=by
 obtain⟨es,clk,h1,h2,h3,h4,h5⟩:=h
 refine⟨es,clk,hm _ _ _ h1,h2,h3,fun x hx=>?_,fun kk hk e=>h5 kk hk (by rw[<- hl kk hk];exact e)⟩
 obtain⟨kk,e1,e2,e3,e4⟩:=h4 x hx
 exact⟨kk,e1,e2,by rw[hl kk e1];exact e3,e4.kp k⟩
theorem put_at (a:Act) (d:Nat) (v:Value) (ts:a.tmps.size=92) (hd:d < 92):(a.put (some d) v).tmps[d]? = some v/\(∀x,x≠d->(a.put (some d) v).tmps[x]? = a.tmps[x]?)/\(a.put (some d) v).tmps.size=92/\(a.put (some d) v).defers=a.defers:=by
 show(a.tmps.setIfInBounds d v)[d]? = some v/\(∀x,x≠d->(a.tmps.setIfInBounds d v)[x]? = a.tmps[x]?)/\(a.tmps.setIfInBounds d v).size=92/\a.defers=a.defers
 exact⟨by simp[ts,hd],fun x hx=>Array.getElem?_setIfInBounds_ne (Ne.symm hx),by simp[ts],rfl⟩
theorem CI.put {r:RsO} {d:Nat} {v:Value} (h:CI w0 b wb pb (n+1) l a w) (hu:l.getD i true=false) (ht:(tab b wb pb)[i]? = some r) (hr:r.dst=some d) (hd:d < 92) (hd3:d≠3) (hd1:d≠1) (k:Kp w w') (bl:Below w0.heap.size w0 w')
  (hm:∀(M:Nat) es clk,w.heap[M]? = some (Obj.map es clk)->w'.heap[M]? = some (Obj.map es clk)) (hv:Dn (NewIn w0) w' b wb pb (a.put (some d) v) r):CI w0 b wb pb n (l.setIfInBounds i true) (a.put (some d) v) w':=by
 have hi:i < 106:=by
  have:=(List.getElem?_eq_some_iff.1 ht).1
  exact this
 obtain⟨p1,p2,p3,p4⟩:=put_at a d v h.ts hd
 obtain⟨c1,c2⟩:=cnt_set h.ls h.cn (by omega) hu
 have hin:∀kk,kk < 18->i≠inI kk:=fun kk hk e=>by
  have e2:=tab_ins b wb pb kk hk
  rw[<- e,ht]at e2
  cases e2
  cases hr
 have h0:i≠0:=fun e=>by
  subst e
  have:r=.mk:=by
   have e2:(tab b wb pb)[0]? = some .mk:=rfl
   rw[ht]at e2
   cases e2;rfl
  subst this
  cases hr
  exact hd3 rfl
 refine⟨c1,c2,p3,(p2 1 (Ne.symm hd1)).trans h.t1,p4.trans h.df,k _ _ h.s1,k _ _ h.s2,bl,(get_set (by omega) _).trans h.u6,(get_set (by omega) _).trans h.u7,fun e kk hk=>?_,fun j r' hj hl=>?_,fun hl=>?_⟩
 ·rw[get_set h0]at e
  rw[get_set (hin kk hk)]
  exact h.z e kk hk
 ·by_cases e:j=i
  ·subst e
   rw[ht]at hj
   cases hj
   exact hv
  ·rw[get_set (Ne.symm e)]at hl
   refine(h.d j r' hj hl).kp k (fun d' hd'=>p2 d' (fun e2=>?_))
   subst e2
   exact e (dst_inj hj ht hd' hr)
 ·rw[get_set h0]at hl
  obtain⟨M,e,hM⟩:=h.m hl
  exact⟨M,(p2 3 (Ne.symm hd3)).trans e,hM.kp k hm (fun kk hk=>get_set (hin kk hk) _)⟩
theorem CI.mkM (h:CI w0 b wb pb (n+1) l a w) (hu:l.getD 0 true=false):CI w0 b wb pb n (l.setIfInBounds 0 true) (a.put (some 3) (.map (some w.heap.size))) (w.alloc (.map #[] 0)):=by
 obtain⟨p1,p2,p3,p4⟩:=put_at a 3 (.map (some w.heap.size)) h.ts (by omega)
 obtain⟨c1,c2⟩:=cnt_set h.ls h.cn (by omega) hu
 have k:Kp w (w.alloc (.map #[] 0)):=Kp.of (aB _ _)
 have h0:=getF h.ls (by omega) hu
 have hs:(l.setIfInBounds 0 true).getD 0 false=true:=by
  have hl:0 < l.size:=by have:=h.ls;omega
  simp[Array.getD,hl]
 refine⟨c1,c2,p3,(p2 1 (by omega)).trans h.t1,p4.trans h.df,k _ _ h.s1,k _ _ h.s2,t2 h.bl (aB _ _),(get_set (by omega) _).trans h.u6,(get_set (by omega) _).trans h.u7,fun e=>?_,fun j r' hj hl=>?_,fun _=>⟨w.heap.size,p1,#[],0,heap_alloc_new _ _,h.bl.size,fun x hx=>by simp at hx,fun x hx=>by simp at hx,fun kk hk e=>?_⟩⟩
 ·rw[hs]at e;cases e
 ·by_cases e:j=0
  ·subst e
   have:r'=.mk:=by
    have e2:(tab b wb pb)[0]? = some .mk:=rfl
    rw[hj]at e2
    cases e2;rfl
   subst this
   trivial
  ·rw[get_set (Ne.symm e)]at hl
   refine(h.d j r' hj hl).kp k (fun d' hd'=>p2 d' (fun e2=>?_))
   subst e2
   exact e (dst_inj hj (show(tab b wb pb)[0]? = some .mk from rfl) hd' rfl)
 ·have hne:(0:Nat)≠inI kk:=fun e2=>by
   have e3:=tab_ins b wb pb kk hk
   rw[<- e2]at e3
   cases e3
  rw[get_set hne,h.z h0 kk hk]at e
  cases e
def kyB:Bool:=(List.range 18).all fun i=>(List.range 18).all fun j=>i==j || !(decide (ky i=ky j))
theorem ky_ok:kyB=true:=by kernel_rfl
theorem ky_inj {i j:Nat} (hi:i < 18) (hj:j < 18) (e:ky i=ky j):i=j:=by
 have hk:=List.all_eq_true.1 (List.all_eq_true.1 ky_ok i (List.mem_range.2 hi)) j (List.mem_range.2 hj)
 simpa [e] using hk
theorem inI_inj {i j:Nat} (hi:i < 18) (hj:j < 18) (e:inI i=inI j):i=j:=by
 have h1:=tab_ins 0 0 0 i hi
 rw[e,tab_ins 0 0 0 j hj]at h1
 cases h1
 rfl
theorem CI.insK {kk:Nat} {v:Value} (h:CI w0 b wb pb (n+1) l a w) (hk:kk < 18) (hu:l.getD (inI kk) true=false) (h0:l.getD 0 false=true) (hv:Ent (NewIn w0) w b wb pb kk v) :
  ∃M w',a.tmps[3]? = some (.map (some M))/\(Instr.mapUpdate 74 (.map (some M)) (.string (ky kk)) v).run Tryz.prog w=.ok () w'/\CI w0 b wb pb n (l.setIfInBounds (inI kk) true) a w':=by
 obtain⟨M,e3,es,clk,h1,h2,h3,h4,h5⟩:=h.m h0
 have hi:inI kk < 106:=(List.getElem?_eq_some_iff.1 (tab_ins b wb pb kk hk)).1
 have hF:=getF h.ls (by omega) hu
 obtain⟨w',hr,m1,m2,m3,m4,m5,m6⟩:=mput h1 h3 (ky kk) v (fun x hx e=>by
  obtain⟨q,q1,q2,q3,_⟩:=h4 x hx
  rw[q2]at e
  have e2:ky q=ky kk:=by injection e
  have:=ky_inj q1 hk e2
  subst this
  rw[hF]at q3
  cases q3)
 obtain⟨c1,c2⟩:=cnt_set h.ls h.cn (by omega) hu
 have k:Kp w w':=Kp.map h1 m3
 have hs:(l.setIfInBounds (inI kk) true).getD (inI kk) false=true:=by
  have hl:inI kk < l.size:=by have:=h.ls;omega
  simp[Array.getD,hl]
 have hne0:inI kk≠0:=fun e2=>by
  have e4:=tab_ins b wb pb kk hk
  rw[e2]at e4
  cases e4
 have bl:Below w0.heap.size w0 w':=⟨m4.trans h.bl.os,m5.trans h.bl.tape,m6.trans h.bl.output,by rw[m2];exact h.bl.size,fun q hq=>(m3 q (by omega)).trans (h.bl.block q hq)⟩
 refine⟨M,w',e3,hr,c1,c2,h.ts,h.t1,h.df,k _ _ h.s1,k _ _ h.s2,bl,(get_set (by omega) _).trans h.u6,(get_set (by omega) _).trans h.u7,fun e=>?_,fun j r' hj hl=>?_,fun _=>⟨M,e3,_,_,m1,h2,?_,fun x hx=>?_,fun q hq e=>?_⟩⟩
 ·rw[get_set hne0,h0]at e;cases e
 ·by_cases e:j=inI kk
  ·subst e
   rw[tab_ins b wb pb kk hk]at hj
   cases hj
   trivial
  ·rw[get_set (Ne.symm e)]at hl
   exact(h.d j r' hj hl).kp k (fun _ _=>rfl)
 ·intro x hx
  rw[Array.toList_push]at hx
  rcases List.mem_append.1 hx with hx | hx
  ·exact h3 x hx
  ·rw[List.mem_singleton.1 hx];exact⟨_,rfl⟩
 ·rw[Array.toList_push]at hx
  rcases List.mem_append.1 hx with hx | hx
  ·obtain⟨q,q1,q2,q3,q4⟩:=h4 x hx
   exact⟨q,q1,q2,getD_set_true q3,q4.kp k⟩
  ·rw[List.mem_singleton.1 hx]
   exact⟨kk,hk,rfl,hs,hv.kp k⟩
 ·rw[Array.toList_push]
  by_cases e2:q=kk
  ·subst e2
   exact⟨_,List.mem_append.2 (.inr (List.mem_singleton.2 rfl)),rfl⟩
  ·rw[get_set (fun e4=>e2 (inI_inj hq hk e4.symm))]at e
   obtain⟨x,hx,ex⟩:=h5 q hq e
   exact⟨x,List.mem_append.2 (.inl hx),ex⟩
end
end Go.Proofs.YtabndgfdbdjdgaaGreatDoor
