/-
  What the claimed theorem reaches, part Q00.
-/
import Derived.Test.YtnogmjekhjldcaaGreatDoorProg
import Derived.ProofKit
import Derived.Deep.RegionHeld3
import Derived.Deep.MidRow
namespace Go.Proofs.YtnogmjekhjldcaaGreatDoor
open Go.RowKit Go.Proofs.Tryz
set_option maxRecDepth 100000
set_option maxHeartbeats 8000000
theorem om {p:Prop} (h:p:=by omega):p:=h
theorem kr {p:Prop} (h:p:=by kernel_rfl):p:=h
theorem sM {p:Prop} (h:p:=by simp):p:=h
theorem az {p:Prop} (h:p:=by assumption):p:=h
theorem dC {p:Prop} (h:p:=by decide):p:=h
theorem bR {n:Nat} {w:World}:Below n w w:=Below.refl _ _
theorem bD {n:Nat} {w:World}:Below n w w.drew:=(Below.refl _ _).drew
theorem nL {n:Nat}:n<=n:=Nat.le_refl n
theorem jH {p:Prop} (h:p):Hid p:=h
theorem jN (k:Nat):(0:Int)<=k:=by omega
theorem jM {P:Program} {f:FuncId} {a:Array Value} {w:World} {v:Value} {R:World->Prop} {Q:Ending->World->Prop}
  (h:Calls P f a w fun e w'=>e=.returned v/\R w') (k:∀w',Hid (R w')->Q (.returned v) w'):Calls P f a w Q :=
 h.mono fun _ w' ⟨e,r⟩=>e ▸ k w' r
section
variable {P:Program} {ops:Array Oper} {Q:Exit->Act->World->Prop} {md:Region.Mode} {S:World->Prop}
theorem jq (i:Nat) {f:Oper} {v:Value} {fuel:Nat} {e:Array Bool} {a:Act} {w:World} (j:ops[i]? = some f) (k:YieldsIf P ops S f v a) (l:S w)
  (h:wpAnyH P md ops Q S fuel (e.setIfInBounds i true) (a.put f.dst v) w)
  (m:Region.noSelect ops=true:=by kernel_rfl) (o:Region.free md ops e i=true:=by kernel_rfl) (hr:(Region.ready md ops e).contains i=true:=by kernel_rfl)
  (p:∀c a w,Q (.panic c) (a.put f.dst v) w->Q (.panic c) a w:=by exact fun _ _ _ h=>h):wpAnyH P md ops Q S (fuel+1) e a w :=
 wpAnyH_take j m o hr p k l h
theorem Wu (i:Nat) {f:Oper} {fuel:Nat} {e:Array Bool} {a:Act} {w:World} (j:ops[i]? = some f) (k:S w)
  (h:wpAnyH P md ops Q S fuel (e.setIfInBounds i true) (a.put f.dst undef) w)
  (l:Region.noSelect ops=true:=by kernel_rfl) (m:Region.free md ops e i=true:=by kernel_rfl) (hr:(Region.ready md ops e).contains i=true:=by kernel_rfl)
  (o:∀c a w,Q (.panic c) (a.put f.dst undef) w->Q (.panic c) a w:=by exact fun _ _ _ h=>h) (p:Region.wanted f (yielded ops a.tmps)=false:=by rfl):wpAnyH P md ops Q S (fuel+1) e a w :=
 wpAnyH_take j l m hr o (Or.inr ⟨p,rfl⟩) k h
theorem tkB (i:Nat) {f:Oper} {fuel:Nat} {e:Array Bool} {a:Act} {w:World} (j:ops[i]? = some f) (v:Value) (k:∀w,S w->(execOp a.eval f).run P w=.ok (.value v) w) (l:S w)
  (h:wpAnyH P md ops Q S fuel (e.setIfInBounds i true) (a.put f.dst v) w)
  (m:Region.noSelect ops=true:=by kernel_rfl) (o:Region.free md ops e i=true:=by kernel_rfl) (hr:(Region.ready md ops e).contains i=true:=by kernel_rfl)
  (p:∀c a w,Q (.panic c) (a.put f.dst v) w->Q (.panic c) a w:=by exact fun _ _ _ h=>h) (q:Region.wanted f (yielded ops a.tmps)=true:=by rfl):wpAnyH P md ops Q S (fuel+1) e a w :=
 wpAnyH_take j m o hr p (Or.inl ⟨q,k⟩) l h
theorem AV (i:Nat) {oi:Oper} {v:Value} {fuel:Nat} {e:Array Bool} {a:Act} {w:World} (j:S w)
  (h:wpAnyH P md ops Q S fuel (e.setIfInBounds i true) (a.put oi.dst v) w)
  (k:ops[i]? = some oi:=by exact rfl) (l:∀w,S w->(execOp a.eval oi).run P w=.ok (.value v) w:=by intro s f;(try dsimp only at f);go_simp;try (with_reducible rfl))
  (m:Region.noSelect ops=true:=by kernel_rfl) (o:Region.free md ops e i=true:=by kernel_rfl) (hr:(Region.ready md ops e).contains i=true:=by kernel_rfl)
  (p:∀c a w,Q (.panic c) (a.put oi.dst v) w->Q (.panic c) a w:=by exact fun _ _ _ h=>h) (q:Region.wanted oi (yielded ops a.tmps)=true:=by rfl):wpAnyH P md ops Q S (fuel+1) e a w :=
 wpAnyH_take k m o hr p (Or.inl ⟨q,l⟩) j h
end
instance:Coe Int Value:=⟨.int .i64⟩
instance:Coe Nat Value:=⟨fun n=>.int .i64 n⟩
instance (b k:Nat):CoeDep (Nat×Nat) (b,k) Addr:=⟨⟨b,k,none⟩⟩
instance:Coe World Nat:=⟨fun w=>w.heap.size⟩
theorem sP:(∀(a:Act) (d:Nat) (v:Value),a.put (some d) v={a with tmps:=a.tmps.setIfInBounds d v})/\(∀(a:Act) (v:Value),a.put none v=a) /\
  (∀{α:Type} {e:List α} {i:Nat} (h:i < e.toArray.size),e.toArray[i]=e[i]'(by simpa using h)) /\
  (∀{α:Type} {x:α} {e:List α} {i:Nat} (h:i+1 < (x::e).length),(x::e)[i+1]=e[i]'(by simpa using h)) /\
  (∀{α:Type} {x:α} {e:List α} (h:0 < (x::e).length),(x::e)[0]=x) /\
  (∀{α:Type} {e:List α} {i:Nat} {x:α},e.toArray.setIfInBounds i x=(e.set i x).toArray) /\
  (∀{α:Type} {x y:α} {e:List α},(x::e).set 0 y=y::e)/\(∀{α:Type} {x y:α} {e:List α} {i:Nat},(x::e).set (i+1) y=x::e.set i y) :=
 ⟨fun _ _ _=>rfl,fun _ _=>rfl,fun h=>List.getElem_toArray h,fun _=>rfl,fun _=>rfl,by intros;exact List.setIfInBounds_toArray ..,by intros;rfl,by intros;rfl⟩
structure Rl where
 al:Bool
 ou:Bool
 pr:Int
 lo:Int
 tp:Int
instance:Inhabited Rl:=⟨⟨false,false,0,0,0⟩⟩
def Rl.ok (r:Rl):Prop:=(r.pr=0\/r.pr=1\/r.pr=2)/\1<=r.lo/\r.lo<=r.tp/\r.tp<=65535
instance (r:Rl):Decidable r.ok:=by unfold Rl.ok;infer_instance
def Rl.has (r:Rl) (pr:Int) (ou:Bool) (p:Int):Bool:=(r.ou==ou) && ((r.pr==0 || r.pr==pr) && (decide (r.lo<=p) && decide (p<=r.tp)))
def adm:List Rl->Int->Bool->Int->Bool
 | [],_,_,_=>false
 | r::l,pr,ou,p=>if r.has pr ou p=true then r.al else adm l pr ou p
def WI (l:List Rl):List Int:=l.flatMap fun r=>[r.lo,r.tp+1]
def sameAt (a b:List Rl) (ou:Bool) (e:Int):Bool:=(WI a++WI b).all fun p=>adm a e ou p==adm b e ou p
def ahx (a b:List Rl):Bool:=sameAt a b true 1 && sameAt a b true 2 && sameAt a b false 1 && sameAt a b false 2
theorem AX {r:Rl} {pr:Int} {ou:Bool} {p:Int}:r.has pr ou p=true↔r.ou=ou/\(r.pr=0\/r.pr=pr)/\r.lo<=p/\p<=r.tp:=by
 unfold Rl.has;simp
def WJ (l:List Rl):List Int:=[1,65535]++l.flatMap fun r=>[r.lo - 1,r.lo,r.tp,r.tp+1]
def af4 (a b:List Rl) (p:Int):Bool:=(adm a 1 false p==adm b 1 false p) && ((adm a 2 false p==adm b 2 false p) && ((adm a 1 true p==adm b 1 true p) && (adm a 2 true p==adm b 2 true p)))
def ag3 (a b:List Rl):Bool:=(WJ (a++b)).all fun p=>decide (p < 1) || (decide (65535 < p) || af4 a b p)
end Go.Proofs.YtnogmjekhjldcaaGreatDoor
