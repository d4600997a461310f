/-
  What the claimed theorem reaches, part Q22.
-/
import Derived.Laws.EntriesVeiled
import Derived.MapFrom
import Derived.Test.YtnogmjekhjldcaaGreatDoorQ18
namespace Go.Proofs.YtnogmjekhjldcaaGreatDoor
open Go.RowKit Go.Proofs.Tryz
set_option maxRecDepth 100000
set_option maxHeartbeats 8000000
theorem Tryz.hmf (a:Fn) (first cap:Array Value) (w:World):(Instr.makeFunc a first cap).run prog w=.ok (.func a first cap) w:=rfl
theorem nV (a:Fn) (first cap:Array Value) (w:World):Calls prog 82 #[.func a first cap] w fun e w'=>e=.returned (.agg #[.string ⟨#[83,78]⟩,.func (.func 139) #[] #[.pointer (some ⟨w.heap.size,0,none⟩)]])/\w'=(w.alloc (.cells #[.func a first cap] 176)).alloc (.cells #[.string ⟨#[83,78]⟩,.func (.func 139) #[] #[.pointer (some ⟨w.heap.size,0,none⟩)]] 174):=by
 have hmf := Tryz.hmf;go_enter func82,ntmps82;go_wp2
 exact bf (by simp[results,results82,go_sem]) rfl ⟨rfl,rfl⟩
theorem rX (a:Fn) (first cap:Array Value) (w:World):Calls prog 85 #[.func a first cap] w fun e w'=>e=.returned (.agg #[.string ⟨#[78]⟩,.func (.func 143) #[] #[.pointer (some ⟨w.heap.size,0,none⟩)]])/\w'=(w.alloc (.cells #[.func a first cap] 171)).alloc (.cells #[.string ⟨#[78]⟩,.func (.func 143) #[] #[.pointer (some ⟨w.heap.size,0,none⟩)]] 174):=by
 have hmf := Tryz.hmf;go_enter func85,ntmps85;go_wp2
 exact bf (by simp[results,results85,go_sem]) rfl ⟨rfl,rfl⟩
theorem Ei (a:Fn) (first cap:Array Value) (w:World):Calls prog 89 #[.func a first cap] w fun e w'=>e=.returned (.agg #[.string ⟨#[83]⟩,.func (.func 149) #[] #[.pointer (some ⟨w.heap.size,0,none⟩)]])/\w'=(w.alloc (.cells #[.func a first cap] 171)).alloc (.cells #[.string ⟨#[83]⟩,.func (.func 149) #[] #[.pointer (some ⟨w.heap.size,0,none⟩)]] 174):=by
 have hmf := Tryz.hmf;go_enter func89,ntmps89;go_wp2
 exact bf (by simp[results,results89,go_sem]) rfl ⟨rfl,rfl⟩
theorem yx (a:Fn) (first cap:Array Value) (w:World):Calls prog 91 #[.func a first cap] w fun e w'=>e=.returned (.agg #[.string ⟨#[80,65,67,75,69,84]⟩,.func (.func 151) #[] #[.pointer (some ⟨w.heap.size,0,none⟩)]])/\w'=(w.alloc (.cells #[.func a first cap] 179)).alloc (.cells #[.string ⟨#[80,65,67,75,69,84]⟩,.func (.func 151) #[] #[.pointer (some ⟨w.heap.size,0,none⟩)]] 174):=by
 have hmf := Tryz.hmf;go_enter func91,ntmps91;go_wp2
 exact bf (by simp[results,results91,go_sem]) rfl ⟨rfl,rfl⟩
theorem pY (a:Fn) (first cap:Array Value) (w:World):Calls prog 94 #[.func a first cap] w fun e w'=>e=.returned (.agg #[.string ⟨#[]⟩,.func (.func 156) #[] #[.pointer (some ⟨w.heap.size,0,none⟩)]])/\w'=(w.alloc (.cells #[.func a first cap] 135)).alloc (.cells #[.string ⟨#[]⟩,.func (.func 156) #[] #[.pointer (some ⟨w.heap.size,0,none⟩)]] 174):=by
 have hmf := Tryz.hmf;go_enter func94,ntmps94;go_wp2
 exact bf (by simp[results,results94,go_sem]) rfl ⟨rfl,rfl⟩
theorem MB (h:Fn) (first cap:Array Value) (i:Fn) (a f:Array Value) (w:World):Calls prog 104 #[.func h first cap,.func i a f] w fun e w'=>e=.returned (.agg #[.string ⟨#[83]⟩,.func (.func 163) #[] #[.pointer (some ⟨w.heap.size,0,none⟩),.pointer (some ⟨w.heap.size+1,0,none⟩)]])/\w'=((w.alloc (.cells #[.func h first cap] 184)).alloc (.cells #[.func i a f] 186)).alloc (.cells #[.string ⟨#[83]⟩,.func (.func 163) #[] #[.pointer (some ⟨w.heap.size,0,none⟩),.pointer (some ⟨w.heap.size+1,0,none⟩)]] 174):=by
 have hmf := Tryz.hmf;go_enter func104,ntmps104;go_wp2
 exact bf (by simp[results,results104,go_sem]) rfl ⟨rfl,rfl⟩
theorem Ej {P:Program} {f:Region.Mode} {e:Array Oper} {Q:Exit->Act->World->Prop} {S:World->Prop} (I:Nat->Array Bool->Act->World->Prop)
  (j:∀l a w,I 0 l a w->Region.ready f e l=[])
  (m:∀n l a w,I n l a w->Region.ready f e l=[]->Q .normal a w)
  (p:∀n l a w,I (n+1) l a w->∀i ∈ Region.ready f e l,wpOp P e Q i (fun o w'=>S w'/\I n (l.setIfInBounds i true) o w') a w) :
  ∀n l a w,I n l a w->wpAnyH P f e Q S n l a w
 | 0,l,a,w,h=>⟨j l a w h,m 0 l a w h (j l a w h)⟩
 | n+1,l,a,w,h=>⟨m (n+1) l a w h,fun i q=>wpOp_mono (fun o w' k=>⟨k.1,Ej I j m p n _ o w' k.2⟩) (p n l a w h i q)⟩
def KyS (a:Array MapEntry):Prop:=∀x ∈ a.toList,∃q,x.key=.string q
theorem KyS.is {a:Array MapEntry} (h:KyS a):∀x ∈ a.toList,MapKept.IsKey .string x.key:=fun x f=>by
 obtain⟨q,e⟩:=h x f;rw[e];trivial
theorem ahe {w:World} {M:Nat} {f:Array MapEntry} {a:Nat} (i:w.heap[M]? = some (.map f a)) (o:KyS f) (k:ByteArray) (v:Value) (p:∀x ∈ f.toList,x.key≠.string k) :
  ∃w',(Instr.mapUpdate 129 (.map (some M)) (.string k) v).run prog w=.ok () w'/\w'.heap[M]? = some (.map (f.push ⟨.string k,v,a⟩) (a+1))/\w'.heap.size=w.heap.size/\(∀b,b≠M->w'.heap[b]? = w.heap[b]?)/\w'.os=w.os/\w'.tape=w.tape/\w'.output=w.output:=by
 have m : prog.underlying 9=some .string := Tryz.underlying9;have h:MapKept.IsKey .string (.string k):=trivial;rcases MapKept.findNow_spec h f.toList 0 o.is with⟨h1,_⟩ | ⟨j,e,h1,h2,h3⟩
 ·refine⟨{w with heap:=w.heap.setIfInBounds M (.map (f.push ⟨.string k,v,a⟩) (a+1))},by simp[Instr.mapUpdate,run_underlying Tryz.underlying129,MapKept.run_getObj_map i,MapKept.run_checkKey m h,MapKept.run_findKey m h1,MapKept.run_setObj_map _ i,Result.andThen],(MapKept.heap_set i).1,by simp,fun b l=>?_,rfl,rfl,rfl⟩;exact(MapKept.heap_set i).2 b l
 ·exact absurd h3 (p e (kW h2))
theorem count_set:∀(l:List Bool) (i:Nat),l[i]? = some false->(l.set i true).count false+1=l.count false
 | [],i,h=>by simp at h
 | x::r,0,h=>by
  have:x=false:=by simpa using h
  subst this;simp
 | x::r,i+1,h=>by
  have:=count_set r i (by simpa using h)
  cases x <;> simp <;> omega
theorem Em:∀(l:List Bool),l.count false=0->∀i:Nat,l[i]? ≠ some false
 | [],_,i=>by simp
 | x::r,h,0=>by
  cases x
  ·simp at h
  ·simp
 | x::r,h,i+1=>by
  have:=Em r (by cases x <;> simp at h ⊢ <;> first | exact h | omega) i;simpa using this
def aaj (a:Array Oper):Bool:=(List.range a.size).all fun i=>match a[i]? with | some o=>o.after.all fun e=>decide (e.on < i) | none=>true
theorem aak {h:Region.Mode} {a:Array Oper} (u:aaj a=true) {l:Array Bool} (B:l.size=a.size) (hr:Region.ready h a l=[]):∀j,j < a.size->l.getD j true=true:=by
 intro j;induction j using Nat.strongRecOn with
 | _ j ih =>
  intro i
  cases w:l.getD j true with
  | true=>rfl
  | false =>
   exfalso;have k:a[j]? = some a[j]:=aeH i;have m:j ∈ Region.ready h a l:=by
    rw[mem_ready];refine⟨w,a[j],k,fun e x _=>?_⟩;have f:e.on < j:=by
     have o:=List.all_eq_true.1 u j (List.mem_range.2 i);rw[k]at o;have p:(a[j].after.all fun e=>decide (e.on < j))=true:=o;rw[Array.all_eq_true]at p;obtain⟨q,y,z⟩:=Array.mem_iff_getElem.1 x;have:=p q y;rw[z]at this;simpa using this
    have s:=ih e.on f om;have A:e.on < l.size:=by omega
    simp only[Array.getD,A,dif_pos]at s ⊢;exact s
   rw[hr]at m
   cases m
def uh (e:Nat):Code->Option (Array Oper)
 | .region i ops _=>if i=e then some ops else none
 | .seq a b=>match uh e a with | some o=>some o | none=>uh e b
 | .block _ c=>uh e c
 | .scope c=>uh e c
 | .loop c=>uh e c
 | .cond _ a b=>match uh e a with | some o=>some o | none=>uh e b
 | _=>none
noncomputable def fZ:Array Oper:=match Tryz.f57.body with | some c=>(uh 1 c).getD #[] | none=>#[]
theorem uj:fZ.size=108:=by kernel_rfl
theorem GY:aaj fZ=true:=by kernel_rfl
section
variable {w w':World} {B:Nat->Prop} {v:Value}
def ky:Nat->ByteArray
 | 0=>⟨#[116,105,99,107]⟩
 | 1=>⟨#[99,117,116]⟩
 | 2=>⟨#[103,111]⟩
 | 3=>⟨#[108,111,115,101]⟩
 | 4=>⟨#[116,119,105,99,101]⟩
 | 5=>⟨#[100,111,119,110]⟩
 | 6=>⟨#[117,112]⟩
 | 7=>⟨#[105,110,115,105,100,101]⟩
 | 8=>⟨#[111,117,116,115,105,100,101]⟩
 | 9=>⟨#[97,108,108]⟩
 | 10=>⟨#[102,108,121]⟩
 | 11=>⟨#[115,119,105,116,99,104]⟩
 | 12=>⟨#[101,118,101,110,116,115]⟩
 | 13=>⟨#[97,99,116,105,118,101]⟩
 | 14=>⟨#[102,108,111,119,115]⟩
 | 15=>⟨#[109,105,114,114,111,114]⟩
 | 16=>⟨#[101,112,111,99,104]⟩
 | _=>⟨#[108,105,102,101]⟩
abbrev Ae (w0:World):Nat->Prop:=fun q=>w0.heap.size<=q
def E1 (B:Nat->Prop) (w:World) (a:ByteArray) (e:Nat) (f v:Value):Prop:=∃q:Nat,B q/\v=.agg #[.string a,.func (.func e) #[] #[.pointer (some ⟨q,0,none⟩)]]/\w.cell? ⟨q,0,none⟩=some f
def E2 (B:Nat->Prop) (w:World) (a:Nat) (e f v:Value):Prop:=∃q r:Nat,B q/\B r/\v=.agg #[.string ⟨#[83]⟩,.func (.func a) #[] #[.pointer (some ⟨q,0,none⟩),.pointer (some ⟨r,0,none⟩)]]/\w.cell? ⟨q,0,none⟩=some e/\w.cell? ⟨r,0,none⟩=some f
def Oc (B:Nat->Prop) (w:World) (b wb pb:Nat):Nat->Value->Prop
 | 0,v=>E1 B w ⟨#[83,78]⟩ 139 (.func (.func 83) #[.pointer (some ⟨b,0,none⟩)] #[]) v
 | 1,v=>E1 B w ⟨#[83,78]⟩ 139 (.func (.func 84) #[.pointer (some ⟨wb,0,none⟩)] #[]) v
 | 2,v=>E1 B w ⟨#[78]⟩ 143 (.func (.func 86) #[.pointer (some ⟨wb,0,none⟩)] #[]) v
 | 3,v=>E1 B w ⟨#[78]⟩ 143 (.func (.func 87) #[.pointer (some ⟨wb,0,none⟩)] #[]) v
 | 4,v=>E1 B w ⟨#[78]⟩ 143 (.func (.func 88) #[.pointer (some ⟨wb,0,none⟩)] #[]) v
 | 5,v=>E1 B w ⟨#[83]⟩ 149 (.func (.func 90) #[.pointer (some ⟨wb,0,none⟩)] #[]) v
 | 6,v=>E1 B w ⟨#[83]⟩ 149 (.func (.func 81) #[.pointer (some ⟨wb,0,none⟩)] #[]) v
 | 7,v=>E1 B w ⟨#[80,65,67,75,69,84]⟩ 151 (.func (.func 92) #[.pointer (some ⟨wb,0,none⟩)] #[]) v
 | 8,v=>E1 B w ⟨#[80,65,67,75,69,84]⟩ 151 (.func (.func 93) #[.pointer (some ⟨wb,0,none⟩)] #[]) v
 | 9,v=>E1 B w ⟨#[]⟩ 156 (.func (.func 95) #[] #[.pointer (some ⟨pb,0,none⟩)]) v
 | 10,v=>E1 B w ⟨#[]⟩ 156 (.func (.func 98) #[] #[.pointer (some ⟨pb,0,none⟩)]) v
 | 11,v=>E1 B w ⟨#[]⟩ 156 (.func (.func 100) #[.pointer (some ⟨b,0,none⟩)] #[]) v
 | 12,v=>E1 B w ⟨#[]⟩ 156 (.func (.func 101) #[.pointer (some ⟨b,0,none⟩)] #[]) v
 | 13,v=>v=.agg #[.string ⟨#[83]⟩,.func (.func 102) #[] #[.pointer (some ⟨pb,0,none⟩)]]
 | 14,v=>E2 B w 163 (.func (.func 105) #[.pointer (some ⟨wb,0,none⟩)] #[]) (.func (.func 106) #[] #[]) v
 | 15,v=>E2 B w 163 (.func (.func 105) #[.pointer (some ⟨wb,0,none⟩)] #[]) (.func (.func 109) #[] #[]) v
 | 16,v=>E2 B w 163 (.func (.func 105) #[.pointer (some ⟨wb,0,none⟩)] #[]) (.func (.func 111) #[] #[]) v
 | _,v=>E2 B w 163 (.func (.func 105) #[.pointer (some ⟨wb,0,none⟩)] #[]) (.func (.func 113) #[] #[]) v
def Kp (w w':World):Prop:=∀a u,w.cell? a=some u->w'.cell? a=some u
theorem Kp.of (h:Below w.heap.size w w'):Kp w w':=fun a u e=>(h.cell (p:=a) (by
 rcases dX a.block w.heap.size with k | k
 ·exact k
 ·simp[World.cell?,Array.getElem?_eq_none k]at e)).trans e
theorem Kp.trans {w2:World} (h:Kp w w') (k:Kp w' w2):Kp w w2:=fun a u e=>k a u (h a u e)
theorem E1.kp {a:ByteArray} {f:Nat} {i:Value} (h:E1 B w a f i v) (k:Kp w w'):E1 B w' a f i v:=by
 obtain⟨q,j,e,c⟩:=h;exact⟨q,j,e,k _ _ c⟩
theorem E2.kp {a:Nat} {f i:Value} (h:E2 B w a f i v) (k:Kp w w'):E2 B w' a f i v:=by
 obtain⟨q,r,j,hr,e,c,d⟩:=h;exact⟨q,r,j,hr,e,k _ _ c,k _ _ d⟩
theorem Oc.kp {b wb pb k:Nat} (h:Oc B w b wb pb k v) (kp:Kp w w'):Oc B w' b wb pb k v:=by
 unfold Oc at *;split at h
 all_goals first | exact E1.kp h kp | exact E2.kp h kp | exact h
theorem Kp.map {M:Nat} {i:Array MapEntry} {f:Nat} (j:w.heap[M]? = some (.map i f)) (h:∀q,q≠M->w'.heap[q]? = w.heap[q]?):Kp w w':=fun a u e=>by
 have k:a.block≠M:=fun l=>by
  unfold World.cell? at e;rw[l,j]at e;simp at e
 rw[<- e];exact dV (h _ k)
end
inductive RsO where
  | val (d:Nat) (v:Value)
  | ent (d k:Nat)
  | mk
  | ins (k:Nat)
def RsO.dst:RsO->Option Nat
  | .val d _=>some d
  | .ent d _=>some d
  | .mk=>some 3
  | .ins _=>none
def tab (b wb pb:Nat):List RsO :=
  [.mk,
   .val 4 (.pointer (some ⟨b,0,none⟩)),
   .val 5 (.func (.func 83) #[.pointer (some ⟨b,0,none⟩)] #[]),
   .ent 6 0,
   .ins 0,
   .val 7 (.pointer (some ⟨b,0,none⟩)),
   .val 8 (.pointer (some ⟨b,0,none⟩)),
   .val 9 (.pointer (some ⟨b,0,none⟩)),
   .val 10 (.pointer (some ⟨wb,0,none⟩)),
   .val 11 (.func (.func 84) #[.pointer (some ⟨wb,0,none⟩)] #[]),
   .ent 12 1,
   .ins 1,
   .val 13 (.pointer (some ⟨b,0,none⟩)),
   .val 14 (.pointer (some ⟨b,0,none⟩)),
   .val 15 (.pointer (some ⟨b,0,none⟩)),
   .val 16 (.pointer (some ⟨wb,0,none⟩)),
   .val 17 (.func (.func 86) #[.pointer (some ⟨wb,0,none⟩)] #[]),
   .ent 18 2,
   .ins 2,
   .val 19 (.pointer (some ⟨b,0,none⟩)),
   .val 20 (.pointer (some ⟨b,0,none⟩)),
   .val 21 (.pointer (some ⟨b,0,none⟩)),
   .val 22 (.pointer (some ⟨wb,0,none⟩)),
   .val 23 (.func (.func 87) #[.pointer (some ⟨wb,0,none⟩)] #[]),
   .ent 24 3,
   .ins 3,
   .val 25 (.pointer (some ⟨b,0,none⟩)),
   .val 26 (.pointer (some ⟨b,0,none⟩)),
   .val 27 (.pointer (some ⟨b,0,none⟩)),
   .val 28 (.pointer (some ⟨wb,0,none⟩)),
   .val 29 (.func (.func 88) #[.pointer (some ⟨wb,0,none⟩)] #[]),
   .ent 30 4,
   .ins 4,
   .val 31 (.pointer (some ⟨b,0,none⟩)),
   .val 32 (.pointer (some ⟨b,0,none⟩)),
   .val 33 (.pointer (some ⟨b,0,none⟩)),
   .val 34 (.pointer (some ⟨wb,0,none⟩)),
   .val 35 (.func (.func 90) #[.pointer (some ⟨wb,0,none⟩)] #[]),
   .ent 36 5,
   .ins 5,
   .val 37 (.pointer (some ⟨b,0,none⟩)),
   .val 38 (.pointer (some ⟨b,0,none⟩)),
   .val 39 (.pointer (some ⟨b,0,none⟩)),
   .val 40 (.pointer (some ⟨wb,0,none⟩)),
   .val 41 (.func (.func 81) #[.pointer (some ⟨wb,0,none⟩)] #[]),
   .ent 42 6,
   .ins 6,
   .val 43 (.pointer (some ⟨b,0,none⟩)),
   .val 44 (.pointer (some ⟨b,0,none⟩)),
   .val 45 (.pointer (some ⟨b,0,none⟩)),
   .val 46 (.pointer (some ⟨wb,0,none⟩)),
   .val 47 (.func (.func 92) #[.pointer (some ⟨wb,0,none⟩)] #[]),
   .ent 48 7,
   .ins 7,
   .val 49 (.pointer (some ⟨b,0,none⟩)),
   .val 50 (.pointer (some ⟨b,0,none⟩)),
   .val 51 (.pointer (some ⟨b,0,none⟩)),
   .val 52 (.pointer (some ⟨wb,0,none⟩)),
   .val 53 (.func (.func 93) #[.pointer (some ⟨wb,0,none⟩)] #[]),
   .ent 54 8,
   .ins 8,
   .val 55 (.func (.func 95) #[] #[.pointer (some ⟨pb,0,none⟩)]),
   .ent 56 9,
   .ins 9,
   .val 57 (.func (.func 98) #[] #[.pointer (some ⟨pb,0,none⟩)]),
   .ent 58 10,
   .ins 10,
   .val 59 (.pointer (some ⟨b,0,none⟩)),
   .val 60 (.func (.func 100) #[.pointer (some ⟨b,0,none⟩)] #[]),
   .ent 61 11,
   .ins 11,
   .val 62 (.pointer (some ⟨b,0,none⟩)),
   .val 63 (.func (.func 101) #[.pointer (some ⟨b,0,none⟩)] #[]),
   .ent 64 12,
   .ins 12,
   .val 65 (.func (.func 102) #[] #[.pointer (some ⟨pb,0,none⟩)]),
   .val 66 (.agg #[.string ⟨#[83]⟩,.func (.func 102) #[] #[.pointer (some ⟨pb,0,none⟩)]]),
   .ins 13,
   .val 67 (.pointer (some ⟨b,0,none⟩)),
   .val 68 (.pointer (some ⟨b,0,none⟩)),
   .val 69 (.pointer (some ⟨b,0,none⟩)),
   .val 70 (.pointer (some ⟨wb,0,none⟩)),
   .val 71 (.func (.func 105) #[.pointer (some ⟨wb,0,none⟩)] #[]),
   .ent 72 14,
   .ins 14,
   .val 73 (.pointer (some ⟨b,0,none⟩)),
   .val 74 (.pointer (some ⟨b,0,none⟩)),
   .val 75 (.pointer (some ⟨b,0,none⟩)),
   .val 76 (.pointer (some ⟨wb,0,none⟩)),
   .val 77 (.func (.func 105) #[.pointer (some ⟨wb,0,none⟩)] #[]),
   .ent 78 15,
   .ins 15,
   .val 79 (.pointer (some ⟨b,0,none⟩)),
   .val 80 (.pointer (some ⟨b,0,none⟩)),
   .val 81 (.pointer (some ⟨b,0,none⟩)),
   .val 82 (.pointer (some ⟨wb,0,none⟩)),
   .val 83 (.func (.func 105) #[.pointer (some ⟨wb,0,none⟩)] #[]),
   .ent 84 16,
   .ins 16,
   .val 85 (.pointer (some ⟨b,0,none⟩)),
   .val 86 (.pointer (some ⟨b,0,none⟩)),
   .val 87 (.pointer (some ⟨b,0,none⟩)),
   .val 88 (.pointer (some ⟨wb,0,none⟩)),
   .val 89 (.func (.func 105) #[.pointer (some ⟨wb,0,none⟩)] #[]),
   .ent 90 17,
   .ins 17]
def Ve:List (Option Nat):=[some 3,some 4,some 5,some 6,none,some 7,some 8,some 9,some 10,some 11,some 12,none,some 13,some 14,some 15,some 16,some 17,some 18,none,some 19,some 20,some 21,some 22,some 23,some 24,none,some 25,some 26,some 27,some 28,some 29,some 30,none,some 31,some 32,some 33,some 34,some 35,some 36,none,some 37,some 38,some 39,some 40,some 41,some 42,none,some 43,some 44,some 45,some 46,some 47,some 48,none,some 49,some 50,some 51,some 52,some 53,some 54,none,some 55,some 56,none,some 57,some 58,none,some 59,some 60,some 61,none,some 62,some 63,some 64,none,some 65,some 66,none,some 67,some 68,some 69,some 70,some 71,some 72,none,some 73,some 74,some 75,some 76,some 77,some 78,none,some 79,some 80,some 81,some 82,some 83,some 84,none,some 85,some 86,some 87,some 88,some 89,some 90,none]
theorem SA (b wb pb:Nat):(tab b wb pb).map RsO.dst=Ve:=rfl
def agB:Bool:=(List.range 106).all fun i=>(List.range 106).all fun j=>i==j || Ve.getD i none==none || Ve.getD i none != Ve.getD j none
theorem adn:agB=true:=by kernel_rfl
def GZ:Nat->Nat
  | 0=>4
  | 1=>11
  | 2=>18
  | 3=>25
  | 4=>32
  | 5=>39
  | 6=>46
  | 7=>53
  | 8=>60
  | 9=>63
  | 10=>66
  | 11=>70
  | 12=>74
  | 13=>77
  | 14=>84
  | 15=>91
  | 16=>98
  | _=>105
theorem qg (b wb pb:Nat):∀k,k < 18->(tab b wb pb)[GZ k]? = some (.ins k):=fun k a=>by
  rcases(by omega:k=0\/k=1\/k=2\/k=3\/k=4\/k=5\/k=6\/k=7\/k=8\/k=9\/k=10\/k=11\/k=12\/k=13\/k=14\/k=15\/k=16\/k=17) with rfl | rfl | rfl | rfl | rfl | rfl | rfl | rfl | rfl | rfl | rfl | rfl | rfl | rfl | rfl | rfl | rfl | rfl <;> rfl
theorem SB {b wb pb i j:Nat} {r a:RsO} {d:Nat} (l:(tab b wb pb)[i]? = some r) (m:(tab b wb pb)[j]? = some a) (h:r.dst=some d) (o:a.dst=some d):i=j:=by
  have e:Ve[i]? = some (some d):=by rw[<- SA b wb pb,kK,l];exact dP some h
  have f:Ve[j]? = some (some d):=by rw[<- SA b wb pb,kK,m];exact dP some o
  have p:i < 106:=(List.getElem?_eq_some_iff.1 e).1;have q:j < 106:=(List.getElem?_eq_some_iff.1 f).1;have k:=List.all_eq_true.1 (List.all_eq_true.1 adn i (List.mem_range.2 p)) j (List.mem_range.2 q);simp[e,f]at k;exact k
def Dn (B:Nat->Prop) (w:World) (b wb pb:Nat) (a:Act):RsO->Prop
 | .val d v=>a.tmps[d]? = some v
 | .ent d k=>∃v,a.tmps[d]? = some v/\Oc B w b wb pb k v
 | _=>True
def MpI (w0 w:World) (b wb pb:Nat) (l:Array Bool) (M:Nat):Prop :=
 ∃a e,w.heap[M]? = some (.map a e)/\w0.heap.size<=M/\KyS a/\(∀x ∈ a.toList,∃k,k < 18/\x.key=.string (ky k)/\l.getD (GZ k) false=true/\Oc (Ae w0) w b wb pb k x.val)/\∀k,k < 18->l.getD (GZ k) false=true->∃x ∈ a.toList,x.key=.string (ky k)
structure CI (w0:World) (b wb pb n:Nat) (l:Array Bool) (a:Act) (w:World):Prop where
 ls:l.size=108
 cn:l.toList.count false=n
 ts:a.tmps.size=92
 t1:a.tmps[1]? = some (.pointer (some ⟨pb,0,none⟩))
 df:a.defers=[]
 s1:w.cell? ⟨pb,0,none⟩=some (.pointer (some ⟨b,0,none⟩))
 s2:w.cell? ⟨b,0,none⟩=some (.pointer (some ⟨wb,0,none⟩))
 bl:Below w0.heap.size w0 w
 u6:l.getD 106 true=false
 u7:l.getD 107 true=false
 z:l.getD 0 false=false->∀k,k < 18->l.getD (GZ k) false=false
 d:∀j r,(tab b wb pb)[j]? = some r->l.getD j false=true->Dn (Ae w0) w b wb pb a r
 m:l.getD 0 false=true->∃M,a.tmps[3]? = some (.map (some M))/\MpI w0 w b wb pb l M
section
variable {w0 w w':World} {b wb pb n i:Nat} {l:Array Bool} {a:Act}
theorem Bq (f:l.size=108) (cn:l.toList.count false=n+1) (k:i < 108) (h:l.getD i true=false):(l.setIfInBounds i true).size=108/\(l.setIfInBounds i true).toList.count false=n:=by
 refine⟨by simp[f],?_⟩;have j:l.toList[i]? = some false:=by
  have e:i < l.size:=by omega
  rw[sQ,aeH e];simpa [Array.getD,e] using h
 have m:=count_set l.toList i j;rw[aeG];omega
theorem agC {j:Nat} (f:l.size=108) (k:j < 108) (h:l.getD j true=false):l.getD j false=false:=by
 have e:j < l.size:=by omega
 simpa [Array.getD,e] using h
theorem gB {j:Nat} (e:i≠j) (x:Bool):(l.setIfInBounds i true).getD j x=l.getD j x:=getD_set_ne x e
theorem Dn.kp {r:RsO} {a f:Act} (h:Dn (Ae w0) w b wb pb a r) (k:Kp w w') (j:∀d,r.dst=some d->f.tmps[d]? = a.tmps[d]?):Dn (Ae w0) w' b wb pb f r:=by
 cases r with
 | val d v=>exact(j d rfl).trans h
 | ent d kk =>
  obtain⟨v,e,m⟩:=h;exact⟨v,(j d rfl).trans e,m.kp k⟩
 | mk=>trivial
 | ins kk=>trivial
theorem MpI.kp {M:Nat} (h:MpI w0 w b wb pb l M) (k:Kp w w') (q:∀(M:Nat) j f,w.heap[M]? = some (Obj.map j f)->w'.heap[M]? = some (Obj.map j f)) (m:∀k,k < 18->(l.setIfInBounds i true).getD (GZ k) false=l.getD (GZ k) false):MpI w0 w' b wb pb (l.setIfInBounds i true) M:=by
 obtain⟨j,f,s,u,y,z,A⟩:=h;refine⟨j,f,q _ _ _ s,u,y,fun x B=>?_,fun kk o e=>A kk o (by rw[<- m kk o];exact e)⟩;obtain⟨kk,p,C,D,E⟩:=z x B;exact⟨kk,p,C,by rw[m kk p];exact D,E.kp k⟩
theorem zy (a:Act) (d:Nat) (v:Value) (e:a.tmps.size=92) (f:d < 92):(a.put (some d) v).tmps[d]? = some v/\(∀x,x≠d->(a.put (some d) v).tmps[x]? = a.tmps[x]?)/\(a.put (some d) v).tmps.size=92/\(a.put (some d) v).defers=a.defers:=by
 show(a.tmps.setIfInBounds d v)[d]? = some v/\(∀x,x≠d->(a.tmps.setIfInBounds d v)[x]? = a.tmps[x]?)/\(a.tmps.setIfInBounds d v).size=92/\a.defers=a.defers;exact⟨by simp[e,f],fun x h=>Array.getElem?_setIfInBounds_ne (Ne.symm h),by simp[e],rfl⟩
theorem CI.put {r:RsO} {d:Nat} {v:Value} (h:CI w0 b wb pb (n+1) l a w) (F:l.getD i true=false) (p:(tab b wb pb)[i]? = some r) (hr:r.dst=some d) (G:d < 92) (q:d≠3) (A:d≠1) (k:Kp w w') (bl:Below w0.heap.size w0 w')
  (H:∀(M:Nat) D s,w.heap[M]? = some (Obj.map D s)->w'.heap[M]? = some (Obj.map D s)) (I:Dn (Ae w0) w' b wb pb (a.put (some d) v) r):CI w0 b wb pb n (l.setIfInBounds i true) (a.put (some d) v) w':=by
 have P:i < 106:=by
  have:=(List.getElem?_eq_some_iff.1 p).1;exact this
 obtain⟨Q,B,J,K⟩:=zy a d v h.ts G;obtain⟨c1,c2⟩:=Bq h.ls h.cn om F;have u:∀kk,kk < 18->i≠GZ kk:=fun kk o e=>by
  have f:=qg b wb pb kk o;rw[<- e,p]at f
  cases f
  cases hr
 have E:i≠0:=fun e=>by
  subst e;have:r=.mk:=by
   have f:(tab b wb pb)[0]? = some .mk:=rfl;rw[p]at f
   cases f;rfl
  subst this
  cases hr
  exact q rfl
 refine⟨c1,c2,J,(B 1 (Ne.symm A)).trans h.t1,K.trans h.df,k _ _ h.s1,k _ _ h.s2,bl,(gB om _).trans h.u6,(gB om _).trans h.u7,fun e kk o=>?_,fun j L y x=>?_,fun x=>?_⟩
 ·rw[gB E]at e;rw[gB (u kk o)];exact h.z e kk o
 ·by_cases e:j=i
  ·subst e;rw[p]at y
   cases y
   exact I
  ·rw[gB (Ne.symm e)]at x;refine(h.d j L y x).kp k (fun N C=>B N (fun f=>?_));subst f;exact e (SB y p C hr)
 ·rw[gB E]at x;obtain⟨M,e,O⟩:=h.m x;exact⟨M,(B 3 (Ne.symm q)).trans e,O.kp k H (fun kk o=>gB (u kk o) _)⟩
theorem CI.mkM (h:CI w0 b wb pb (n+1) l a w) (u:l.getD 0 true=false):CI w0 b wb pb n (l.setIfInBounds 0 true) (a.put (some 3) (.map (some w.heap.size))) (w.alloc (.map #[] 0)):=by
 obtain⟨D,y,E,F⟩:=zy a 3 (.map (some w.heap.size)) h.ts om;obtain⟨c1,c2⟩:=Bq h.ls h.cn om u;have k:Kp w (w.alloc (.map #[] 0)):=Kp.of (aB _ _);have G:=agC h.ls om u;have H:(l.setIfInBounds 0 true).getD 0 false=true:=by
  have m:0 < l.size:=by have:=h.ls;omega
  simp[Array.getD,m]
 refine⟨c1,c2,E,(y 1 om).trans h.t1,F.trans h.df,k _ _ h.s1,k _ _ h.s2,t2 h.bl (aB _ _),(gB om _).trans h.u6,(gB om _).trans h.u7,fun e=>?_,fun j A o m=>?_,fun _=>⟨w.heap.size,D,#[],0,dh _ _,h.bl.size,fun x p=>by simp at p,fun x p=>by simp at p,fun kk B e=>?_⟩⟩
 ·rw[H]at e;cases e
 ·by_cases e:j=0
  ·subst e;have:A=.mk:=by
    have f:(tab b wb pb)[0]? = some .mk:=rfl;rw[o]at f
    cases f;rfl
   subst this;trivial
  ·rw[gB (Ne.symm e)]at m;refine(h.d j A o m).kp k (fun I q=>y I (fun f=>?_));subst f;exact e (SB o (show(tab b wb pb)[0]? = some .mk from rfl) q rfl)
 ·have s:(0:Nat)≠GZ kk:=fun f=>by
   have C:=qg b wb pb kk B;rw[<- f]at C
   cases C
  rw[gB s,h.z G kk B]at e
  cases e
def kyB:Bool:=(List.range 18).all fun i=>(List.range 18).all fun j=>i==j || !(decide (ky i=ky j))
theorem agD:kyB=true:=by kernel_rfl
theorem aal {i j:Nat} (f:i < 18) (h:j < 18) (e:ky i=ky j):i=j:=by
 have k:=List.all_eq_true.1 (List.all_eq_true.1 agD i (List.mem_range.2 f)) j (List.mem_range.2 h);simpa [e] using k
theorem ado {i j:Nat} (h:i < 18) (k:j < 18) (e:GZ i=GZ j):i=j:=by
 have f:=qg 0 0 0 i h;rw[e,qg 0 0 0 j k]at f
 cases f
 rfl
theorem CI.agE {kk:Nat} {v:Value} (h:CI w0 b wb pb (n+1) l a w) (o:kk < 18) (E:l.getD (GZ kk) true=false) (F:l.getD 0 false=true) (L:Oc (Ae w0) w b wb pb kk v) :
  ∃M w',a.tmps[3]? = some (.map (some M))/\(Instr.mapUpdate 129 (.map (some M)) (.string (ky kk)) v).run prog w=.ok () w'/\CI w0 b wb pb n (l.setIfInBounds (GZ kk) true) a w':=by
 obtain⟨M,G,es,N,H,O,I,J,P⟩:=h.m F;have hi:GZ kk < 106:=(List.getElem?_eq_some_iff.1 (qg b wb pb kk o)).1;have Q:=agC h.ls om E;obtain⟨w',hr,R,S,K,T,U,V⟩:=ahe H I (ky kk) v (fun x f e=>by
  obtain⟨q,B,C,u,_⟩:=J x f;rw[C]at e;have p:ky q=ky kk:=by injection e
  have:=aal B o p;subst this;rw[Q]at u
  cases u)
 obtain⟨c1,c2⟩:=Bq h.ls h.cn om E;have k:Kp w w':=Kp.map H K;have W:(l.setIfInBounds (GZ kk) true).getD (GZ kk) false=true:=by
  have y:GZ kk < l.size:=by have:=h.ls;omega
  simp[Array.getD,y]
 have s:GZ kk≠0:=fun p=>by
  have z:=qg b wb pb kk o;rw[p]at z
  cases z
 have bl:Below w0.heap.size w0 w':=⟨T.trans h.bl.os,U.trans h.bl.tape,V.trans h.bl.output,by rw[S];exact h.bl.size,fun q A=>(K q om).trans (h.bl.block q A)⟩;refine⟨M,w',G,hr,c1,c2,h.ts,h.t1,h.df,k _ _ h.s1,k _ _ h.s2,bl,(gB om _).trans h.u6,(gB om _).trans h.u7,fun e=>?_,fun j X D y=>?_,fun _=>⟨M,G,_,_,R,O,?_,fun x f=>?_,fun q A e=>?_⟩⟩
 ·rw[gB s,F]at e;cases e
 ·by_cases e:j=GZ kk
  ·subst e;rw[qg b wb pb kk o]at D
   cases D
   trivial
  ·rw[gB (Ne.symm e)]at y;exact(h.d j X D y).kp k (fun _ _=>rfl)
 ·intro x f;rw[Array.toList_push]at f;rcases lU.1 f with f | f
  ·exact I x f
  ·rw[jA.1 f];exact⟨_,rfl⟩
 ·rw[Array.toList_push]at f;rcases lU.1 f with f | f
  ·obtain⟨q,B,C,u,Y⟩:=J x f;exact⟨q,B,C,getD_set_true u,Y.kp k⟩
  ·rw[jA.1 f];exact⟨kk,o,rfl,W,L.kp k⟩
 ·rw[Array.toList_push];by_cases p:q=kk
  ·subst p;exact⟨_,lU.2 (.inr (jA.2 rfl)),rfl⟩
  ·rw[gB (fun z=>p (ado A o z.symm))]at e;obtain⟨x,f,Z⟩:=P q A e;exact⟨x,lU.2 (.inl f),Z⟩
end
set_option maxRecDepth 100000
set_option maxHeartbeats 4000000
theorem aeo {w w':World} (h:Below w.heap.size w w'):∀(M:Nat) f a,w.heap[M]? = some (Obj.map f a)->w'.heap[M]? = some (Obj.map f a):=fun M f a e=>by
 rw[h.block M (by
  rcases dX M w.heap.size with k | k
  ·exact k
  ·rw[eP k]at e;cases e)]
 exact e
theorem al3 (w:World) (f g:Value) (T U:TypeId) (o:Obj):(((w.alloc (.cells #[f] T)).alloc (.cells #[g] U)).alloc o).cell? ⟨w.heap.size,0,none⟩=some f/\(((w.alloc (.cells #[f] T)).alloc (.cells #[g] U)).alloc o).cell? ⟨w.heap.size+1,0,none⟩=some g:=by
 refine⟨tk (t2 (aB _ _) (aB _ _)) (by rw[nw];rfl),tk (aB _ _) ?_⟩;have e:=nw (w.alloc (.cells #[f] T)) #[g] U 0;have a:(w.alloc (.cells #[f] T)).heap.size=w.heap.size+1:=by simp
 rw[a]at e;exact e
def SC (i:Nat):Prop:=∀{w0 w:World} {b wb pb n:Nat} {l:Array Bool} {a:Act} {Q:Exit->Act->World->Prop},CI w0 b wb pb (n+1) l a w->i ∈ Region.ready .any fZ l->wpOp prog fZ Q i (fun e w'=>True/\CI w0 b wb pb n (l.setIfInBounds i true) e w') a w
section
variable {i d q e:Nat} {T T':TypeId} {p:String} {af:Array Edge}
theorem stV {o:Op} {v:Nat->Nat->Nat->Value} (k:fZ[i]? = some ⟨some d,o,T,p,af,none⟩) (m:∀b wb pb,(tab b wb pb)[i]? = some (.val d (v b wb pb))) (j:d < 92/\d≠3/\d≠1)
  (run:∀{w0 w:World} {b wb pb n:Nat} {l:Array Bool} {a:Act},CI w0 b wb pb n l a w->(∀q e u,(tab b wb pb)[q]? = some (.val e u)->⟨q,.data⟩ ∈ af->a.tmps[e]? = some u)->(execOp a.eval ⟨some d,o,T,p,af,none⟩).run prog w=.ok (.value (v b wb pb)) w):SC i:=by
 intro w0 w b wb pb n l a Q h s;obtain⟨x,D,f,y⟩:=mem_ready.1 s;rw[k]at f
 cases f
 refine JK k (fun K' z=>?_);refine Eq.mpr (aj (by rfl)) ?_;unfold Oper.wp;rw[run h (fun q e u A B=>by
  have C:=h.d q _ A (y _ B rfl);exact C)]
 exact z _ _ ⟨trivial,h.put x (m b wb pb) rfl j.1 j.2.1 j.2.2 (Kp.of bR) h.bl (fun _ _ _ e=>e) (zy a d _ h.ts j.1).1⟩
theorem k1 (a:fZ[i]? = some ⟨some d,.load 93 (.tmp 1),T',p,af,none⟩) (f:∀b wb pb,(tab b wb pb)[i]? = some (.val d (.pointer (some ⟨b,0,none⟩))):=by exact fun _ _ _=>rfl) (j:d < 92/\d≠3/\d≠1:=by decide):SC i:=stV a f j fun h _=>by
 have t1:=h.t1;have s1:=h.s1;go_simp
theorem k2 (a:fZ[i]? = some ⟨some d,.nilCheck (.tmp e),T',p,#[⟨q,.data⟩],none⟩) (f:∀b wb pb,(tab b wb pb)[i]? = some (.val d (.pointer (some ⟨b,0,none⟩))):=by exact fun _ _ _=>rfl) (j:∀b wb pb,(tab b wb pb)[q]? = some (.val e (.pointer (some ⟨b,0,none⟩))):=by exact fun _ _ _=>rfl) (k:d < 92/\d≠3/\d≠1:=by decide):SC i:=stV a f k fun h H=>by
 have l:=H q e _ (j _ _ _) sM;go_simp
theorem k3 (a:fZ[i]? = some ⟨some d,.fieldAddr 131 (.tmp e) 0,T',p,#[⟨q,.data⟩],none⟩) (f:∀b wb pb,(tab b wb pb)[i]? = some (.val d (.pointer (some ⟨b,0,none⟩))):=by exact fun _ _ _=>rfl) (j:∀b wb pb,(tab b wb pb)[q]? = some (.val e (.pointer (some ⟨b,0,none⟩))):=by exact fun _ _ _=>rfl) (k:d < 92/\d≠3/\d≠1:=by decide):SC i:=stV a f k fun h H=>by
 have l:=H q e _ (j _ _ _) sM;go_simp
theorem k4 (a:fZ[i]? = some ⟨some d,.load 126 (.tmp e),T',p,#[⟨q,.data⟩],none⟩) (f:∀b wb pb,(tab b wb pb)[i]? = some (.val d (.pointer (some ⟨wb,0,none⟩))):=by exact fun _ _ _=>rfl) (j:∀b wb pb,(tab b wb pb)[q]? = some (.val e (.pointer (some ⟨b,0,none⟩))):=by exact fun _ _ _=>rfl) (k:d < 92/\d≠3/\d≠1:=by decide):SC i:=stV a f k fun h H=>by
 have l:=H q e _ (j _ _ _) sM;have s2:=h.s2;go_simp
theorem k5 {f:Fn} {u:Nat->Nat->Nat->Value} (a:fZ[i]? = some ⟨some d,.makeFunc f #[.tmp e] #[],T',p,#[⟨q,.data⟩],none⟩) (j:∀b wb pb,(tab b wb pb)[i]? = some (.val d (.func f #[u b wb pb] #[])):=by exact fun _ _ _=>rfl) (k:∀b wb pb,(tab b wb pb)[q]? = some (.val e (u b wb pb)):=by exact fun _ _ _=>rfl) (l:d < 92/\d≠3/\d≠1:=by decide):SC i:=stV a j l fun h H=>by
 have m:=H q e _ (k _ _ _) sM;have hmf := Tryz.hmf;go_simp
theorem k6 {f:Fn} (a:fZ[i]? = some ⟨some d,.makeFunc f #[] #[.tmp 1],T',p,#[],none⟩) (j:∀b wb pb,(tab b wb pb)[i]? = some (.val d (.func f #[] #[.pointer (some ⟨pb,0,none⟩)])):=by exact fun _ _ _=>rfl) (k:d < 92/\d≠3/\d≠1:=by decide):SC i:=stV a j k fun h H=>by
 have t1:=h.t1;have hmf := Tryz.hmf;go_simp
theorem kI {k:Nat}   (m:fZ[i]? = some ⟨none,.insert 129 (.tmp 3) (.const (.string (ky k))) (.tmp e),T',p,#[⟨0,.data⟩,⟨q,.data⟩],none⟩) (s:∀b wb pb,(tab b wb pb)[q]? = some (.ent e k):=by exact fun _ _ _=>rfl) (u:k < 18:=by decide) (j:GZ k=i:=by rfl):SC i:=by
 subst j;intro w0 w b wb pb n l a Q h j;obtain⟨x,z,f,o⟩:=mem_ready.1 j;rw[m]at f
 cases f
 obtain⟨v,A,y⟩:=h.d q _ (s _ _ _) (o ⟨q,.data⟩ sM rfl);obtain⟨M,w2,B,hr,C⟩:=h.agE u x (o ⟨0,.data⟩ sM rfl) y;refine JK m (fun K' D=>?_);refine Eq.mpr (aj (by rfl)) ?_;go_wp2
theorem kE {r:List Edge} {F A k:Nat} {f:ByteArray} {H:TypeId} {I:World->Obj} {t:TypeId} {ts:Array TypeId} {j:Fn} {m o:Nat->Nat->Nat->Array Value} (C:∀j m o w,Calls prog F #[.func j m o] w fun e w'=>e=.returned (.agg #[.string f,.func (.func A) #[] #[.pointer (some ⟨w.heap.size,0,none⟩)]])/\w'=(w.alloc (.cells #[.func j m o] H)).alloc (I w))
  (D:fZ[i]? = some ⟨some d,.call ⟨.value (.func F),#[.tmp e],ts⟩,t,p,(⟨q,.data⟩::r).toArray,none⟩) (J:∀E u,(callFunc F E).run prog u=.ok (.enter F E) u:=by exact fun _ _=>rfl) (K:∀b wb pb,(tab b wb pb)[q]? = some (.val e (.func j (m b wb pb) (o b wb pb))):=by exact fun _ _ _=>rfl) (L:∀b wb pb,(tab b wb pb)[i]? = some (.ent d k):=by exact fun _ _ _=>rfl)
  (M:∀B w b wb pb v,E1 B w f A (.func j (m b wb pb) (o b wb pb)) v->Oc B w b wb pb k v:=by exact fun _ _ _ _ _ _ h=>h) (y:d < 92/\d≠3/\d≠1:=by decide):SC i:=by
 intro w0 w b wb pb n l a Q h N;obtain⟨O,V,s,P⟩:=mem_ready.1 N;rw[D]at s
 cases s
 have W:a.tmps[e]? = some _:=h.d q _ (K _ _ _) (P ⟨q,.data⟩ sM rfl);refine JK D (fun K' R=>?_);refine Eq.mpr (aj (by rfl)) ?_;unfold Oper.wp;have S:(execOp a.eval ⟨some d,.call ⟨.value (.func F),#[.tmp e],ts⟩,t,p,(⟨q,.data⟩::r).toArray,none⟩).run prog w=.ok (.enter F #[.func j (m b wb pb) (o b wb pb)]) w:=by
  have U:=J;go_simp
 rw[S,Oper.upon_enter];refine(C _ _ _ w).mono ?_;rintro x w2 ⟨rfl,G⟩;have z:Below w w w2:=by rw[G];exact t2 (aB _ _) (aB _ _)
 exact R _ _ ⟨trivial,h.put O (L _ _ _) rfl y.1 y.2.1 y.2.2 (Kp.of z) (t2 h.bl z) (aeo z) ⟨_,(zy a d _ h.ts y.1).1,M _ _ _ _ _ _ ⟨_,h.bl.size,rfl,by rw[G];simp⟩⟩⟩
theorem kS {r:List Edge} {k g:Nat} {s u:Nat->Nat->Nat->Array Value} {y:Fn} {t:TypeId} {ts:Array TypeId} (z:fZ[i]? = some ⟨some d,.call ⟨.value (.func 104),#[.tmp e,.func g],ts⟩,t,p,(⟨q,.data⟩::r).toArray,none⟩) (A:∀b wb pb,(tab b wb pb)[q]? = some (.val e (.func y (s b wb pb) (u b wb pb))):=by exact fun _ _ _=>rfl) (C:∀b wb pb,(tab b wb pb)[i]? = some (.ent d k):=by exact fun _ _ _=>rfl)
  (D:∀B w b wb pb v,E2 B w 163 (.func y (s b wb pb) (u b wb pb)) (.func (.func g) #[] #[]) v->Oc B w b wb pb k v:=by exact fun _ _ _ _ _ _ h=>h) (j:d < 92/\d≠3/\d≠1:=by decide):SC i:=by
 intro w0 w b wb pb n l a Q h E;obtain⟨F,I,f,G⟩:=mem_ready.1 E;rw[z]at f
 cases f
 have J:a.tmps[e]? = some _:=h.d q _ (A _ _ _) (G ⟨q,.data⟩ sM rfl);refine JK z (fun K' H=>?_);refine Eq.mpr (aj (by rfl)) ?_;go_wp2_with fail;refine(MB _ _ _ _ _ _ w).mono ?_;rintro x w2 ⟨rfl,m⟩;have o:Below w w w2:=by rw[m];exact t2 (t2 (aB _ _) (aB _ _)) (aB _ _)
 exact H _ _ ⟨trivial,h.put F (C _ _ _) rfl j.1 j.2.1 j.2.2 (Kp.of o) (t2 h.bl o) (aeo o) ⟨_,(zy a d _ h.ts j.1).1,D _ _ _ _ _ _ ⟨_,_,h.bl.size,Nat.le_succ_of_le h.bl.size,rfl,by rw[m];exact(al3 w _ _ _ _ _).1,by rw[m];exact(al3 w _ _ _ _ _).2⟩⟩⟩
theorem kI3  (k:fZ[i]? = some ⟨none,.insert 129 (.tmp 3) (.const (.string (ky 13))) (.tmp e),T',p,#[⟨0,.data⟩,⟨q,.data⟩],none⟩) (o:∀b wb pb,(tab b wb pb)[q]? = some (.val e (.agg #[.string ⟨#[83]⟩,.func (.func 102) #[] #[.pointer (some ⟨pb,0,none⟩)]])):=by exact fun _ _ _=>rfl) (j:GZ 13=i:=by rfl):SC i:=by
 subst j;intro w0 w b wb pb n l a Q h j;obtain⟨s,u,f,m⟩:=mem_ready.1 j;rw[k]at f
 cases f
 have x:a.tmps[e]? = some _:=h.d q _ (o _ _ _) (m ⟨q,.data⟩ sM rfl);obtain⟨M,w2,y,hr,z⟩:=h.agE (kk:=13) om s (m ⟨0,.data⟩ sM rfl) rfl;refine JK k (fun K' A=>?_);refine Eq.mpr (aj (by rfl)) ?_;go_wp2
theorem s0 (j:fZ[0]? = some ⟨some 3,.makeMap 129 none,T',p,#[],none⟩):SC 0:=by
 intro w0 w b wb pb n l a Q h k;obtain⟨f,_⟩:=mem_ready.1 k;have m:=@run_makeMap prog;refine JK j (fun K' o=>?_);refine Eq.mpr (aj (by rfl)) ?_;go_wp2
 first | exact h.mkM f | exact⟨trivial,h.mkM f⟩
theorem k7 {f:Fn} (a:fZ[i]? = some ⟨some d,.build 174 #[(0,.const (.string ⟨#[83]⟩)),(1,.tmp e)],T',p,#[⟨q,.data⟩],none⟩) (j:∀b wb pb,(tab b wb pb)[i]? = some (.val d (.agg #[.string ⟨#[83]⟩,.func f #[] #[.pointer (some ⟨pb,0,none⟩)]])):=by exact fun _ _ _=>rfl) (k:∀b wb pb,(tab b wb pb)[q]? = some (.val e (.func f #[] #[.pointer (some ⟨pb,0,none⟩)])):=by exact fun _ _ _=>rfl) (l:d < 92/\d≠3/\d≠1:=by decide):SC i:=stV a j l fun h H=>by
 have m:=H q e _ (k _ _ _) sM;go_simp
end
theorem st_all:∀i,i < 106->SC i
 | 0,_=>s0 rfl
 | 1,_=>k1 rfl
 | 2,_=>k5 rfl
 | 3,_=>kE (k:=0) nV rfl
 | 4,_=>kI (k:=0) rfl
 | 5,_=>k1 rfl
 | 6,_=>k2 rfl
 | 7,_=>k3 rfl
 | 8,_=>k4 rfl
 | 9,_=>k5 rfl
 | 10,_=>kE (k:=1) nV rfl
 | 11,_=>kI (k:=1) rfl
 | 12,_=>k1 rfl
 | 13,_=>k2 rfl
 | 14,_=>k3 rfl
 | 15,_=>k4 rfl
 | 16,_=>k5 rfl
 | 17,_=>kE (k:=2) rX rfl
 | 18,_=>kI (k:=2) rfl
 | 19,_=>k1 rfl
 | 20,_=>k2 rfl
 | 21,_=>k3 rfl
 | 22,_=>k4 rfl
 | 23,_=>k5 rfl
 | 24,_=>kE (k:=3) rX rfl
 | 25,_=>kI (k:=3) rfl
 | 26,_=>k1 rfl
 | 27,_=>k2 rfl
 | 28,_=>k3 rfl
 | 29,_=>k4 rfl
 | 30,_=>k5 rfl
 | 31,_=>kE (k:=4) rX rfl
 | 32,_=>kI (k:=4) rfl
 | 33,_=>k1 rfl
 | 34,_=>k2 rfl
 | 35,_=>k3 rfl
 | 36,_=>k4 rfl
 | 37,_=>k5 rfl
 | 38,_=>kE (k:=5) Ei rfl
 | 39,_=>kI (k:=5) rfl
 | 40,_=>k1 rfl
 | 41,_=>k2 rfl
 | 42,_=>k3 rfl
 | 43,_=>k4 rfl
 | 44,_=>k5 rfl
 | 45,_=>kE (k:=6) Ei rfl
 | 46,_=>kI (k:=6) rfl
 | 47,_=>k1 rfl
 | 48,_=>k2 rfl
 | 49,_=>k3 rfl
 | 50,_=>k4 rfl
 | 51,_=>k5 rfl
 | 52,_=>kE (k:=7) yx rfl
 | 53,_=>kI (k:=7) rfl
 | 54,_=>k1 rfl
 | 55,_=>k2 rfl
 | 56,_=>k3 rfl
 | 57,_=>k4 rfl
 | 58,_=>k5 rfl
 | 59,_=>kE (k:=8) yx rfl
 | 60,_=>kI (k:=8) rfl
 | 61,_=>k6 rfl
 | 62,_=>kE (k:=9) pY rfl
 | 63,_=>kI (k:=9) rfl
 | 64,_=>k6 rfl
 | 65,_=>kE (k:=10) pY rfl
 | 66,_=>kI (k:=10) rfl
 | 67,_=>k1 rfl
 | 68,_=>k5 rfl
 | 69,_=>kE (k:=11) pY rfl
 | 70,_=>kI (k:=11) rfl
 | 71,_=>k1 rfl
 | 72,_=>k5 rfl
 | 73,_=>kE (k:=12) pY rfl
 | 74,_=>kI (k:=12) rfl
 | 75,_=>k6 rfl
 | 76,_=>k7 rfl
 | 77,_=>kI3 rfl
 | 78,_=>k1 rfl
 | 79,_=>k2 rfl
 | 80,_=>k3 rfl
 | 81,_=>k4 rfl
 | 82,_=>k5 rfl
 | 83,_=>kS (k:=14) rfl
 | 84,_=>kI (k:=14) rfl
 | 85,_=>k1 rfl
 | 86,_=>k2 rfl
 | 87,_=>k3 rfl
 | 88,_=>k4 rfl
 | 89,_=>k5 rfl
 | 90,_=>kS (k:=15) rfl
 | 91,_=>kI (k:=15) rfl
 | 92,_=>k1 rfl
 | 93,_=>k2 rfl
 | 94,_=>k3 rfl
 | 95,_=>k4 rfl
 | 96,_=>k5 rfl
 | 97,_=>kS (k:=16) rfl
 | 98,_=>kI (k:=16) rfl
 | 99,_=>k1 rfl
 | 100,_=>k2 rfl
 | 101,_=>k3 rfl
 | 102,_=>k4 rfl
 | 103,_=>k5 rfl
 | 104,_=>kS (k:=17) rfl
 | 105,_=>kI (k:=17) rfl
 | n+106,h=>absurd h om
section
variable {w0 w:World} {b wb pb:Nat} {l:Array Bool} {a:Act}
set_option maxRecDepth 100000
set_option maxHeartbeats 4000000
def MpF (B:Nat->Prop) (w:World) (b wb pb M:Nat):Prop:=∃e f,w.heap[M]? = some (.map e f)/\KyS e/\(∀x ∈ e.toList,∃k,k < 18/\x.key=.string (ky k)/\Oc B w b wb pb k x.val)/\∀k,k < 18->∃x ∈ e.toList,x.key=.string (ky k)
theorem aam:fZ[106]? = some ⟨some 91,.move (.tmp 3),129,"command.go:36",((List.range 106).map fun j=>(⟨j,.data⟩:Edge)).toArray,none⟩:=by kernel_rfl
theorem aan:fZ[107]? = some ⟨some 2,.assign (.tmp 91),129,"command.go:36",((⟨106,.data⟩:Edge)::(⟨104,.chain⟩:Edge)::(List.range 107).map fun j=>(⟨j,.phase⟩:Edge)).toArray,none⟩:=by kernel_rfl
theorem aao {n:Nat} {Q:Exit->Act->World->Prop} (h:CI w0 b wb pb (n+1) l a w):∀i,i < 106->i ∈ Region.ready .any fZ l->wpOp prog fZ Q i (fun e w'=>True/\CI w0 b wb pb n (l.setIfInBounds i true) e w') a w :=
 fun i f hr=>st_all i f h hr
structure Jf (w0:World) (b wb pb:Nat) (x:Nat) (a:Act) (w:World):Prop where
 ts:a.tmps.size=92
 df:a.defers=[]
 bl:Below w0.heap.size w0 w
 m:∃M,w0.heap.size<=M/\a.tmps[x]? = some (.map (some M))/\MpF (Ae w0) w b wb pb M
 s1:w.cell? ⟨pb,0,none⟩=some (.pointer (some ⟨b,0,none⟩))
theorem CI.whole {n:Nat} (h:CI w0 b wb pb n l a w) (i:∀j,j < 106->l.getD j false=true):Jf w0 b wb pb 3 a w:=by
 obtain⟨M,e,p,f,q,s,u,y,z⟩:=h.m (i 0 om);refine⟨h.ts,h.df,h.bl,⟨M,s,e,p,f,q,u,fun x A=>?_,fun k o=>z k o (i _ (List.getElem?_eq_some_iff.1 (qg b wb pb k o)).1)⟩,h.s1⟩;obtain⟨k,B,C,_,D⟩:=y x A;exact⟨k,B,C,D⟩
theorem Jf.put {x d:Nat} {v:Value} (h:Jf w0 b wb pb x a w) (i:d < 92) (f:a.tmps[x]? = some v):Jf w0 b wb pb d (a.put (some d) v) w:=by
 obtain⟨j,q,k,o⟩:=zy a d v h.ts i;obtain⟨M,p,e,m⟩:=h.m;rw[e]at f
 cases f
 exact⟨k,o.trans h.df,h.bl,⟨M,p,j,m⟩,h.s1⟩
def cmI (w0:World) (b wb pb n:Nat) (l:Array Bool) (a:Act) (w:World):Prop :=
 CI w0 b wb pb n l a w \/
 (l.size=108/\l.toList.count false=n/\(∀j,j < 107->l.getD j false=true)/\l.getD 107 true=false/\Jf w0 b wb pb 91 a w) \/
 ((∀j,l.getD j true=true)/\Jf w0 b wb pb 2 a w)
theorem SE {i:Nat} (j:l.size=108) (k:i < 108) (h:l.getD i true=false):l.toList.count false≠0:=fun e=>by
 have f:i < l.size:=by omega
 refine Em l.toList e i ?_;rw[sQ,aeH f];simpa [Array.getD,f] using h
theorem Qc {j:Nat} (h:l.getD j false=true):l.getD j true=true:=by
 rcases dX j l.size with k | k
 ·simpa [Array.getD,k] using h
 ·simp[Array.getD,Nat.not_lt.2 k]
theorem adp {Q:Exit->Act->World->Prop} (L:∀a w,Jf w0 b wb pb 2 a w->Q .normal a w) {n:Nat} {l:Array Bool} (h:CI w0 b wb pb n l a w):wpAnyH prog .any fZ Q (fun _=>True) n l a w:=by
 have u:∀(l:Array Bool) i,l.size=108->i ∈ Region.ready .any fZ l->i < 108:=fun l i R f=>by
  obtain⟨_,o,q,_⟩:=mem_ready.1 f;have:=(Array.getElem?_eq_some_iff.1 q).1;rw[uj]at this;exact this
 refine Ej (cmI w0 b wb pb) ?_ ?_ ?_ n l a w (.inl h)
 ·rintro l a w (h | ⟨p,s,z,A,B⟩ | ⟨p,s⟩)
  ·exact absurd h.cn (SE h.ls om h.u6)
  ·exact absurd s (SE p om A)
  ·refine List.eq_nil_iff_forall_not_mem.2 fun i f=>?_;have:=(mem_ready.1 f).1;rw[p i]at this
   cases this
 ·rintro n l a w (h | ⟨p,s,z,A,B⟩ | ⟨p,s⟩) hr
  ·have:=aak GY (by rw[h.ls,uj]) hr 106 (by rw[uj];omega);rw[h.u6]at this
   cases this
  ·have:=aak GY (by rw[p,uj]) hr 107 (by rw[uj];omega);rw[A]at this
   cases this
  ·exact L a w s
 ·rintro n l a w (h | ⟨p,s,z,A,B⟩ | ⟨p,s⟩) i f
  ·have E:=u l i h.ls f;obtain⟨C,o,q,F⟩:=mem_ready.1 f;by_cases N:i < 106
   ·exact wpOp_mono (fun S w' k=>⟨trivial,.inl k.2⟩) (aao h i N f)
   ·by_cases G:i=107
    ·subst G;rw[aan]at q
     cases q
     have:=Qc (F ⟨106,.data⟩ sM rfl);rw[h.u6]at this
     cases this
    ·obtain rfl:i=106:=by omega
     rw[aam]at q
     cases q
     have I:∀j,j < 106->l.getD j false=true:=fun j J=>F ⟨j,.data⟩ (by simp[J]) rfl;have K:=h.whole I;obtain⟨M,O,e,m⟩:=K.m;obtain⟨c1,c2⟩:=Bq h.ls h.cn om C;have H:=K.put (d:=91) om e;have x:cmI w0 b wb pb n (l.setIfInBounds 106 true) (a.put (some 91) (.map (some M))) w:=.inr (.inl ⟨c1,c2,fun j J=>by
      by_cases D:j=106
      ·subst D;have y:106 < l.size:=by have:=h.ls;omega
       simp[Array.getD,y]
      ·exact getD_set_true (I j om),(gB om _).trans h.u7,H⟩)
     refine JK aam (fun K' P=>?_);refine Eq.mpr (aj (by rfl)) ?_;go_wp2
     first | exact x | exact⟨trivial,x⟩
  ·have E:=u l i p f;obtain⟨C,o,q,F⟩:=mem_ready.1 f;have G:i=107:=by
    rcases dX i 107 with k | k
    ·rw[Qc (z i k)]at C;cases C
    ·omega
   subst G;obtain⟨M,O,e,m⟩:=B.m;have H:=B.put (d:=2) om e;have x:cmI w0 b wb pb n (l.setIfInBounds 107 true) (a.put (some 2) (.map (some M))) w:=.inr (.inr ⟨fun j=>by
    by_cases D:j=107
    ·subst D;have y:107 < l.size:=by omega
     simp[Array.getD,y]
    ·rw[gB (Ne.symm D)];rcases dX j 107 with k | k
     ·exact Qc (z j k)
     ·have y:¬j < l.size:=by omega
      simp[Array.getD,y],H⟩)
   refine JK aan (fun K' P=>?_);refine Eq.mpr (aj (by rfl)) ?_;go_wp2
   first | exact x | exact⟨trivial,x⟩
  ·have:=(mem_ready.1 f).1;rw[p i]at this
   cases this
end
theorem CI.start {w0 w:World} {b wb pb:Nat} {a:Act} (h:a.tmps.size=92) (i:a.tmps[1]? = some (.pointer (some ⟨pb,0,none⟩))) (df:a.defers=[]) (s1:w.cell? ⟨pb,0,none⟩=some (.pointer (some ⟨b,0,none⟩))) (s2:w.cell? ⟨b,0,none⟩=some (.pointer (some ⟨wb,0,none⟩))) (bl:Below w0.heap.size w0 w):CI w0 b wb pb 108 (Array.replicate 108 false) a w:=by
 have f:∀j,(Array.replicate 108 false).getD j false=false:=fun j=>by
  rcases dX j 108 with k | k
  ·simp[Array.getD,k]
  ·simp[Array.getD,Nat.not_lt.2 k]
 exact⟨by simp,by simp,h,i,df,s1,s2,bl,rfl,rfl,fun _ k _=>f _,(fun j r _ e=>by rw[f]at e;cases e),(fun e=>by rw[f]at e;cases e)⟩
theorem En (b wb:Nat) (w:World) (a:w.cell? ⟨b,0,none⟩=some (.pointer (some ⟨wb,0,none⟩))):Calls prog 57 #[.pointer (some ⟨b,0,none⟩)] w fun e w'=>∃M pb,e=.returned (.map (some M))/\w.heap.size<=M/\w.heap.size<=pb/\MpF (Ae w) w' b wb pb M/\w'.cell? ⟨pb,0,none⟩=some (.pointer (some ⟨b,0,none⟩))/\Below w.heap.size w w':=by
 go_enter func57,ntmps57;go_upto_region 1 with fail
 refine TF ?_;refine Ih (S:=fun _=>True) kr trivial (fun _=>?_);refine adp (w0:=w) (b:=b) (wb:=wb) (pb:=w.heap.size) ?_ (CI.start rfl rfl rfl ?_ ?_ ?_)
 ·intro i w2 f;obtain⟨j,df,bl,⟨M,h,e,m⟩,s1⟩:=f;refine TM ?_;go_wp2_with fail;exact bf (v:=.map (some M)) (by simp[results,results57,go_sem,e]) df ⟨M,w.heap.size,rfl,h,bJ _,m,s1,bl⟩
 ·simp
 ·exact(tk ((aB w _).drew) a)
 ·exact(aB w _).drew
section
variable {w w' w0:World} {b B pb M N:Nat} {K:WK}
theorem gq {o:Obj} (h:w.heap[b]? = some o):b < w.heap.size:=by
 rcases dX b w.heap.size with a | a
 ·exact a
 ·rw[eP a]at h;cases h
theorem Oc.ch {B a:Nat->Prop} {wb k:Nat} {v:Value} (h:Oc B w b wb pb k v) (f:∀q,B q->q < w.heap.size->a q/\w'.heap[q]? = w.heap[q]?):Oc a w' b wb pb k v:=by
 have l:∀{form cl fn v},E1 B w form cl fn v->E1 a w' form cl fn v:=fun ⟨q,i,e,c⟩=>by
  obtain⟨b1,j⟩:=f q i (eF c);exact⟨q,b1,e,(dV j).trans c⟩
 have m:∀{cl fn gn v},E2 B w cl fn gn v->E2 a w' cl fn gn v:=fun ⟨q,r,i,hr,e,c,d⟩=>by
  obtain⟨b1,j⟩:=f q i (eF c);obtain⟨o,p⟩:=f r hr (eF d);exact⟨q,r,b1,o,e,(dV j).trans c,(dV p).trans d⟩
 unfold Oc at *;split at h
 all_goals first | exact l h | exact m h | exact h
theorem MpF.ch {B e:Nat->Prop} {wb:Nat} (h:MpF B w b wb pb M) (f:w'.heap[M]? = w.heap[M]?) (i:∀q,B q->q < w.heap.size->e q/\w'.heap[q]? = w.heap[q]?):MpF e w' b wb pb M:=by
 obtain⟨j,a,l,m,o,p⟩:=h;refine⟨j,a,f.trans l,m,fun x s=>?_,p⟩;obtain⟨k,k1,k2,k3⟩:=o x s;exact⟨k,k1,k2,k3.ch i⟩
structure zA (w0 w:World) (K:WK) (B N b M pb:Nat):Prop where
 bc:w.heap[b]? = some (.cells #[.pointer (some ⟨K.wb,0,none⟩),.map (some M)] 131 (0,0))
 mp:MpF (fun q=>B<=q/\q < N) w b K.wb pb M
 pc:w.cell? ⟨pb,0,none⟩=some (.pointer (some ⟨b,0,none⟩))
 lo:(B<=b/\b < N)/\(B<=M/\M < N)/\(B<=pb/\pb < N)/\w0.heap.size<=B/\N<=w.heap.size
 tg:∀q,B<=q->q < N->K.tag q=9
theorem zA.ch {K':WK} (h:zA w0 w K B N b M pb) (k:K'.wb=K.wb) (o:w.heap.size<=w'.heap.size) (a:∀q,B<=q->q < N->w'.heap[q]? = w.heap[q]?) (l:∀q,B<=q->q < N->K'.tag q=9):zA w0 w' K' B N b M pb:=by
 obtain⟨e,f,i,m,p⟩:=h.lo;refine⟨?_,?_,(dV (a pb i.1 i.2)).trans h.pc,⟨e,f,i,m,by omega⟩,l⟩
 ·rw[a b e.1 e.2,k];exact h.bc
 ·rw[k];exact h.mp.ch (a M f.1 f.2) (fun q j _=>⟨j,a q j.1 j.2⟩)
theorem zA.mv {K':WK} (h:zA w0 w K B N b M pb) (m:Mv K K' w w'):zA w0 w' K' B N b M pb :=
 h.ch m.wb m.size (fun q a e=>m.block q (by have:=h.lo.2.2.2.2;omega) (.inl (h.tg q a e))) (fun q a e=>by rw[m.tag q (by have:=h.lo.2.2.2.2;omega)];exact h.tg q a e)
theorem zA.below (h:zA w0 w K B N b M pb) (a:Below w.heap.size w w'):zA w0 w' K B N b M pb :=
 h.ch rfl a.size (fun q _ e=>a.block q (by have:=h.lo.2.2.2.2;omega)) h.tg
theorem FK {s:Nat->Addr} (S:jm w s) (v:Value) (l:List Rl) (R:Sl w v l) (G:∀a n c,v=.slice (some a) n c->a.block < w.heap.size) (H:l.length<=1000) (u:aF l) :
  Calls prog 33 #[v] w fun e w'=>∃(K:WK) (B N b M pb:Nat),e=.returned (.tuple #[.pointer (some ⟨b,0,none⟩),.nilIface])/\Wd w w' K (Wo.born l) 0/\(∀i,i < 2->∃q,K.yk i=some q)/\zA w w' K B N b M pb:=by
 have P:Hid (jm w s):=S;have y:Hid (Sl w v l/\(∀a n c,v=.slice (some a) n c->a.block < w.heap.size)/\l.length<=1000/\aF l):=⟨R,G,H,u⟩;clear S R G H u;go_enter func33,ntmps33;go_wp2_with fail;refine(ade P.out v l y.out.1 y.out.2.1 y.out.2.2.1).mono ?_;rintro e f o;rcases o with⟨-,K,rfl,wd,hyk,low⟩ | ⟨hno,-⟩;rotate_left
 ·exact absurd y.out.2.2.2 hno
 have z:Hid (Wd w f K (Wo.born l) 0/\∀i,i < 2->∃q,K.yk i=some q):=⟨wd,hyk⟩;clear wd hyk low;go_wp2_with fail;have j:(f.alloc (.cells #[.pointer (some ⟨K.wb,0,none⟩),.map none] 131)).heap.size=f.heap.size+1:=by simp
 refine(En f.heap.size K.wb _ ((nw _ _ _ _).trans rfl)).mono ?_;rintro e w6 ⟨M,pb,rfl,C,p,D,pc,E⟩;have Q:=C;have I:=p;rw[j]at C p;have m:w6.heap[f.heap.size]? = some (.cells #[.pointer (some ⟨K.wb,0,none⟩),.map none] 131 (0,0)):=(E.block _ (by rw[j];omega)).trans (dh _ _);have c1:w6.cell? ⟨f.heap.size,1,none⟩=some (.map none):=(aP _ _ _ _ _ _ m).trans rfl;have W:w6.frozen? ⟨f.heap.size,1,none⟩=false:=jk _ _ _ _ _ m;have J:Below f.heap.size f w6:=t2 (aB _ _) E;have F:aC f.heap.size w6 (w6.setCell ⟨f.heap.size,1,none⟩ (.map (some M))):=aC.set _ _ _ _;have h:∀q,f.heap.size+1<=q->(w6.setCell ⟨f.heap.size,1,none⟩ (.map (some M))).heap[q]? = w6.heap[q]? := fun q x=>by
  rcases dX q w6.heap.size with k | k
  ·exact F.block q k om
  ·rw[eP k,eP (by simpa using k)]
 have L:Below f.heap.size f (w6.setCell ⟨f.heap.size,1,none⟩ (.map (some M))):=aC.below J F nL;have O:Hid (Wd w (w6.setCell ⟨f.heap.size,1,none⟩ (.map (some M))) K (Wo.born l) 0/\zA w (w6.setCell ⟨f.heap.size,1,none⟩ (.map (some M))) K f.heap.size w6.heap.size f.heap.size M pb):=by
  refine⟨z.out.1.below L,?_,D.ch (h M C) (fun q x T=>⟨⟨by have A:(f.alloc (.cells #[.pointer (some ⟨K.wb,0,none⟩),.map none] 131)).heap.size<=q:=x;rw[j]at A;omega,T⟩,h q (by have A:(f.alloc (.cells #[.pointer (some ⟨K.wb,0,none⟩),.map none] 131)).heap.size<=q:=x;rw[j]at A;exact A)⟩),?_,⟨⟨bJ _,gq m⟩,⟨by omega,?_⟩,⟨by omega,eF pc⟩,z.out.1.bl.size,by simp⟩,fun q x _=>z.out.1.al q x⟩
  ·rw[bV w6 _ 1 _ _ (.map (some M)) m];rfl
  ·exact(dV (h pb p)).trans pc
  ·obtain⟨X,U,V,_⟩:=D;exact gq V
 clear D pc E J F h L m j;go_wp2_with fail;exact bf (v:=.tuple #[.pointer (some ⟨f.heap.size,0,none⟩),.nilIface]) (by simp[results,results33,go_sem]) rfl ⟨K,_,_,_,M,pb,rfl,O.out.1,z.out.2,O.out.2⟩
end
def wt (n:Int):Nat->Wo->Nat×Wo
 | 0,W=>(0,W)
 | k+1,W=>if W.Ee n=0 then wt n k (W.rU n) else (W.Ee n,W.rU n)
theorem In.wt {n:Int}:∀(k:Nat) {q:Nat} {W:Wo},In q W->q+k<=300000->In (q+k) (wt n k W).2
 | 0,_,_,h,_=>h
 | k+1,q,W,h,hq=>by
  unfold Go.Proofs.YtnogmjekhjldcaaGreatDoor.wt;split
  ·have:=In.wt (n:=n) k (h.tick om n) om;rw[show q+(k+1)=q+1+k by omega];exact this
  ·exact(h.tick om n).mono om
theorem Vf {w0 w:World} {K:WK} {W:Wo} {t q B N b M pb:Nat} {s:Nat->Addr} (S:jm w0 s) (h:Wd w0 w K W t) (P:zA w0 w K B N b M pb) (m:In q W) (k:Nat) (I:q+k<=250000) (J:t+k<=190000) (n:Int) :
  Calls prog 83 #[.pointer (some ⟨b,0,none⟩),.int .i64 n,.int .i64 k] w fun e w'=>e=.returned (aO s (wt n k W).1)/\∃K',Wd w0 w' K' (wt n k W).2 (t+k)/\Mv K K' w w'/\zA w0 w' K' B N b M pb:=by
 have Q:Hid (jm w0 s):=S;have l:Hid (Wd w0 w K W t/\In q W/\q+k<=250000/\t+k<=190000/\zA w0 w K B N b M pb):=⟨h,m,I,J,P⟩;have T:(k:Int)<=190000:=by omega
 clear S h m I J P;go_enter func83,ntmps83;go_wp2_with fail;go_loopw [9] (fun C u=>∃r:Nat,r<=k/\C=.int .i64 r/\∃K' V,Wd w0 u K' V (t+r)/\In (q+r) V/\wt n k W=wt n (k - r) V/\Mv K K' w u/\zA w0 u K' B N b M pb) (fun C _=>k - (intOf C).toNat)
 case atStart=>exact⟨0,by omega,rfl,K,W,l.out.1,l.out.2.1,rfl,Mv.of bR,l.out.2.2.2.2⟩
 case round =>
  obtain⟨r,hr,rfl,K',V,L,m,O,mv,D⟩:=hrel;have f:Hid (Wd w0 wr K' V (t+r)/\In (q+r) V/\Mv K K' w wr/\zA w0 wr K' B N b M pb):=⟨L,m,mv,D⟩;have E:Hid (wt n k W=wt n (k - r) V):=O;have c0:wr.cell? ⟨b,0,none⟩=some (.pointer (some ⟨K'.wb,0,none⟩)):=(aP _ _ _ _ _ _ D.bc).trans rfl;clear L m O mv D;by_cases F:r < k
  ·have U:(r:Int) < (k:Int):=by omega
   have o:Hid (r < k):=F;go_wp2_with fail;refine(ada Q.out f.out.1 (by have:=l.out;have:=o.out;omega) n (fun i y _ R=>(f.out.2.1.up i y R).lg (by have:=l.out;have:=o.out;omega))).mono ?_;rintro e w2 ⟨rfl,p,x,G⟩;have j:Hid (Wd w0 w2 p (V.rU n) (t+r+1)/\In (q+r+1) (V.rU n)/\Mv K p w w2/\zA w0 w2 p B N b M pb):=⟨x,f.out.2.1.tick (by have:=l.out;have:=o.out;omega) n,f.out.2.2.1.trans G,f.out.2.2.2.mv G⟩;have z:Hid (wt n (k - r) V=if V.Ee n=0 then wt n (k - (r+1)) (V.rU n) else (V.Ee n,V.rU n)):=by
    have H:k - r=k - (r+1)+1:=by have:=o.out;omega
    show wt n (k - r) V=_;rw[H];rfl
   clear x G c0
   cases A:V.Ee n with
   | zero =>
    have a:Hid (wt n k W=wt n (k - (r+1)) (V.rU n)):=by show _=_;rw[E.out,z.out,aj A]
    clear A;simp only[aO];go_wp2_with fail;exact⟨⟨r+1,by omega,by go_num,p,V.rU n,j.out.1,j.out.2.1,a.out,j.out.2.2.1,j.out.2.2.2⟩,by simp[intOf];omega⟩
   | succ c =>
    have a:Hid (wt n k W=(c+1,V.rU n)):=by show _=_;rw[E.out,z.out,ak om,A]
    clear A;simp only[aO];go_wp2_with fail;go_ret;exact⟨by rw[a.out];rfl,p,by rw[a.out];exact j.out.1.mono (by have:=o.out;omega),j.out.2.2.1,j.out.2.2.2⟩
  ·obtain rfl:r=k:=by omega
   have a:Hid (wt n r W=(0,V)):=by show _=_;rw[E.out,TN];rfl
   go_wp2_with fail;go_ret;exact⟨by rw[a.out];rfl,K',by rw[a.out];exact f.out.1,f.out.2.2.1,f.out.2.2.2⟩
def kY (n m:Int) (p:Pk):Value:=.agg #[.int .i64 n,.int .i64 m,.int .i64 p.pr,.int .i64 p.a1,.int .i64 p.p1,.int .i64 p.a2,.int .i64 p.p2,.int .i64 p.fl]
def bU (n m:Int) (p:Pk):Obj:=.cells #[.int .i64 n,.int .i64 m,.int .i64 p.pr,.int .i64 p.a1,.int .i64 p.p1,.int .i64 p.a2,.int .i64 p.p2,.int .i64 p.fl] 182
theorem Eo {w:World} {x:Nat} {h:Option Addr} {a f:FuncId} {n m:Int} {p:Pk} {r:Value} {Q:World->Prop} {l:List Value} (q:∀(i:Array Value) (u:World),(callFunc a i).run prog u=.ok (.enter a i) u) (j:w.cell? (x,0)=some (.func (.func a) #[.pointer h] #[]))
  (C:Hid (Calls prog a (.pointer h::l).toArray (w.alloc (bU n m p)) fun e w'=>e=.returned r/\Q w')) (k:f = 139/\l=[.int .i64 n,.int .i64 m]\/f = 143/\l=[.int .i64 m]\/f = 149/\l=[.int .i64 n]) :
  Calls prog f #[kY n m p,.pointer (some (x,0))] w fun e w'=>e=.returned (.tuple #[.string ⟨#[111,107]⟩,r])/\Q w':=by
 have s:x < w.heap.size:=eF j;unfold kY;unfold bU at C;rcases k with⟨rfl,rfl⟩ | ⟨rfl,rfl⟩ | ⟨rfl,rfl⟩;all_goals first | (go_enter func139,ntmps139) | (go_enter func143,ntmps143) | (go_enter func149,ntmps149)
 all_goals go_wp2_with fail
 all_goals refine C.mono ?_
 all_goals rintro e w2 ⟨rfl,hr⟩
 all_goals have o:Hid (Q w2):=hr
 all_goals clear hr C
 all_goals go_wp2_with fail
 all_goals exact bf (v:=.tuple #[.string ⟨#[111,107]⟩,r]) (by simp[results,results139,results143,results149,go_sem]) rfl ⟨rfl,o⟩
theorem SG (x:No):x.tick.id=x.id/\x.tk1.id=x.id:=by
 have e:∀z:No,z.noted.id=z.id:=fun z=>by unfold No.noted;split <;> rfl
 have a:x.tk1.id=x.id:=by
  unfold No.tk1 No.rP;repeat' split
  all_goals rfl
 unfold No.tick;split
 ·exact⟨(e _).trans a,a⟩
 ·exact⟨a,a⟩
theorem afk (x:No) (p:Pk):(x.ins p).id=x.id:=by
 unfold No.ins No.ou No.mP No.bg;repeat' split
 all_goals rfl
theorem afl (x:No) (p:Pk):(x.jd p).id=x.id:=by
 unfold No.jd No.mP;repeat' split
 all_goals rfl
theorem afm (x:No) (t:Nf):(x.hrd t).id=x.id:=by
 unfold No.hrd;repeat' split
 all_goals rfl
def Zo (a:Int):Prop:=a=0\/a=1
structure Sk (q:Nat) (W:Wo):Prop where
 n:∀i x,W.nd i=some x->Zo x.id
 f:∀t ∈ W.fl,Zo t.fr/\0<=t.ep
 s:Zo W.hn/\0<=W.he/\W.he<=2 * (q:Int)
 e:∀e ∈ W.ev,Zo e.1/\0<=e.2/\e.2<=2 * (q:Int)
section
variable {q:Nat} {W:Wo}
theorem Sk.mono {q':Nat} (h:Sk q W) (i:q<=q'):Sk q' W:=⟨h.n,h.f,⟨h.s.1,h.s.2.1,by have:=h.s.2.2;omega⟩,fun e a=>⟨(h.e e a).1,(h.e e a).2.1,by have:=(h.e e a).2.2;omega⟩⟩
theorem Sk.born (l:List Rl):Sk 1 (Wo.born l):=by
 refine⟨fun i x h=>?_,fun t j=>?_,⟨.inl rfl,yO 0,?_⟩,fun e k=>?_⟩
 ·have a:(if i < 2 then some (No.new i iO.fF l) else none)=some x:=h;split at a
  ·rename_i m
   cases a
   show Zo (i:Int);unfold Zo;omega
  ·cases a
 ·have f:t ∈ ([]:List Nf):=j;simp at f
 ·show(0:Int)<=_;omega
 ·have f:e ∈ ([]:List (Int×Int)):=k;simp at f
theorem Sk.nJ (h:Sk q W) {i:Nat} {x:No} (k:Zo x.id):Sk q {W with nd:=aQ W.nd i (some x)}:=by
 refine⟨fun j y l=>?_,h.f,h.s,h.e⟩;have a:aQ W.nd i (some x) j=some y:=l;by_cases e:j=i
 ·subst e;rw[aG]at a;cases a;exact k
 ·rw[aI _ _ e]at a;exact h.n j y a
theorem Sk.bQ (h:Sk q W) {i:Nat} {y:By}:Sk q (W.bQ i y):=by
 refine⟨fun j z k=>?_,h.f,h.s,h.e⟩;have a:aQ W.nd i none j=some z:=k;by_cases e:j=i
 ·subst e;rw[aG]at a;cases a
 ·rw[aI _ _ e]at a;exact h.n j z a
theorem Sk.aT (h:Sk q W) (k:Nat):Sk q (W.aT k):=⟨h.n,fun t a=>h.f t (WS a),h.s,h.e⟩
theorem Sk.sent (h:Sk q W) {l:List Nf} (j:∀t ∈ l,Zo t.fr/\0<=t.ep):Sk q (W.sent l):=⟨h.n,fun t k=>by
 have i:t ∈ W.fl++l.take (200 - W.fl.length):=k;rcases lU.1 i with a | a
 ·exact h.f t a
 ·exact j t (BU a),h.s,h.e⟩
theorem Sk.noted (h:Sk q W) {a:Int×Int} (j:Zo a.1/\0<=a.2/\a.2<=2 * (q:Int)):Sk q (W.noted a):=⟨h.n,h.f,h.s,fun e k=>by
 have i:e ∈ (if W.ev.length < 1000 then W.ev++[a] else W.ev):=k;split at i
 ·rcases lU.1 i with b | b
  ·exact h.e e b
  ·rw[jA.1 b];exact j
 ·exact h.e e i⟩
theorem XI.ep0 {x:No} (h:XI q x):0<=x.ro.ep:=by have:=h.ep;omega
theorem Sk.tick (h:Sk q W) (w:In q W) (l:q<=300000) (n:Int):Sk (q+1) (W.rU n):=by
 unfold Wo.rU;split
 ·rename_i m
  cases s:W.nd n.toNat with
  | none=>exact h.mono om
  | some x =>
   have o:=w.up _ x s;have j:=h.n _ x s;have k:=h.mono (q':=q+1) om;have e:∀t ∈ x.dN.map x.tk1.fly,Zo t.fr/\0<=t.ep:=fun t y=>by
    obtain⟨u,_,rfl⟩:=List.mem_map.1 y;exact⟨by show Zo x.tk1.id;rw[(SG x).2];exact j,(o.tk1 l).ep0⟩
   have p:Zo ((n.toNat:Nat):Int):=by
    unfold Wo.jW at m;split at m
    ·unfold Zo;omega
    ·cases m
   have f:Zo x.tick.id:=by rw[(SG x).1];exact j
   show Sk (q+1) (W.au n.toNat x);unfold Wo.au;split
   ·split
    ·have z:=k.nJ (i:=n.toNat) f;exact(z.noted (a:=(((n.toNat:Nat):Int),x.tick.ro.ep)) ⟨p,(o.tick l).ep0,(o.tick l).eq⟩).sent e
    ·exact(k.nJ f).sent e
   ·split
    ·exact k.bQ
    ·exact k.nJ f
 ·exact h.mono om
theorem Sk.down (h:Sk q W) (n:Int):Sk q (W.fU n):=by
 unfold Wo.fU;split
 ·cases a:W.nd n.toNat with
  | none=>exact h
  | some x=>exact h.bQ
 ·exact h
theorem Sk.upN (h:Sk q W) (n:Int):Sk q (W.iL n):=by
 unfold Wo.iL;split
 ·rename_i e;unfold Wo.vM at e;split at e
  ·rename_i a;split at e
   ·omega
   ·refine h.nJ ?_;show Zo ((n.toNat:Nat):Int);unfold Zo;omega
  ·omega
 ·exact h
theorem Sk.cut (h:Sk q W) (n m:Int):Sk q (W.fV n m):=by
 unfold Wo.fV;split
 ·cases a:W.nd n.toNat with
  | none=>exact h
  | some x=>exact h.nJ (h.n _ x a)
 ·exact h
theorem Sk.inside (h:Sk q W) (p:Pk):Sk q (W.ins p):=by
 unfold Wo.ins;split
 ·rename_i i x a;exact h.nJ (by rw[afk];exact h.n i x (je a).2.1)
 ·exact h
theorem Sk.outside (h:Sk q W) (p:Pk):Sk q (W.jd p):=by
 unfold Wo.jd;split
 ·rename_i i x a;exact h.nJ (by rw[afl];exact h.n i x (je a).2.1)
 ·exact h
theorem Sk.drop (h:Sk q W) (n:Int):Sk q (W.dropped n):=by
 unfold Wo.dropped;split
 ·exact h.aT _
 ·exact h
theorem Sk.nI (h:Sk q W) (k:In q W) (n:Int):Sk q (W.nI n):=by
 unfold Wo.nI;split
 ·cases i:W.fl[n.toNat]? with
  | none=>exact h
  | some t =>
   have a:=k.fl t (kW i);have j:=h.f t (kW i);show Sk q (W.delivered n.toNat t);unfold Wo.delivered;split
   ·unfold Wo.heard;split
    ·exact⟨(h.aT n.toNat).n,(h.aT n.toNat).f,⟨j.1,j.2,a⟩,h.e⟩
    ·exact h.aT _
   ·unfold Wo.handed;split
    ·rename_i x l;exact(h.aT n.toNat).nJ (by rw[afm];exact h.n _ x l)
    ·exact h.aT _
 ·exact h
theorem Vg (n:Int):(W.bT n).ev=W.ev/\(W.bT n).hn=W.hn/\(W.bT n).he=W.he:=by
 unfold Wo.bT;repeat' split
 all_goals exact⟨rfl,rfl,rfl⟩
theorem Sk.twice (h:Sk q W) (n:Int):Sk q (W.bT n):=by
 have s:=W.jJ n;have s2:=Vg (W:=W) n;exact⟨fun i x a=>h.n i x (by rw[<- s.1];exact a),fun t j=>h.f t (Wo.pI t j),by rw[s2.2.1,s2.2.2];exact h.s,by rw[s2.1];exact h.e⟩
theorem In.bT (h:In q W) (n:Int):In q (W.bT n):=by
 have s:=W.jJ n;refine⟨fun i x a=>h.up i x (by rw[<- s.1];exact a),fun i e f=>?_,fun t j=>h.fl t (Wo.pI t j)⟩;rw[s.2.1];exact h.dn i e (by rw[<- s.1];exact f)
end
theorem Sk.wt {n:Int}:∀(k:Nat) {q:Nat} {W:Wo},Sk q W->In q W->q+k<=300000->Sk (q+k) (wt n k W).2
 | 0,_,_,h,_,_=>h
 | k+1,q,W,h,hI,hq=>by
  unfold Go.Proofs.YtnogmjekhjldcaaGreatDoor.wt;split
  ·have:=Sk.wt (n:=n) k (h.tick hI om n) (hI.tick om n) om;rw[show q+(k+1)=q+1+k by omega];exact this
  ·exact(h.tick hI om n).mono om
def qV:Nat->Wo->Wo
 | 0,W=>W
 | d+1,W=>(qV d W).nI 0
theorem In.qV {q:Nat} {W:Wo} (h:In q W):∀d,In q (qV d W)
 | 0=>h
 | d+1=>(In.qV h d).nI 0
theorem Sk.qV {q:Nat} {W:Wo} (h:Sk q W) (a:In q W):∀d,Sk q (qV d W)
 | 0=>h
 | d+1=>(Sk.qV h a d).nI (In.qV a d) 0
theorem adq (W:Wo):(W.nI 0).fl=W.fl.eraseIdx 0:=by
 unfold Wo.nI Wo.pK
 cases a:W.fl with
 | nil=>simp[a]
 | cons t l =>
  rw[aj (by rw[aj];simp)];show(W.delivered 0 t).fl=_;have e:(W.aT 0).fl=(t::l).eraseIdx 0:=by show W.fl.eraseIdx 0=_;rw[a]
  unfold Wo.delivered Wo.heard Wo.handed;repeat' split
  all_goals exact e
theorem Ep (V:Wo):∀k,(qV k V).fl.length=V.fl.length - k
 | 0=>rfl
 | k+1=>by
  show((qV k V).nI 0).fl.length=_;rw[adq];have:=Ep V k;by_cases h:(qV k V).fl=[]
  ·rw[h]at this ⊢;simp at this ⊢;omega
  ·rw[vV (by have:=List.length_pos_iff.2 h;omega)];omega
end Go.Proofs.YtnogmjekhjldcaaGreatDoor
