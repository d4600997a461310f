/-
  What the claimed theorem reaches, part Q11.
-/
import Derived.Test.YtnogmjekhjldcaaGreatDoorQ10
import Derived.Maps.Views
import Derived.DeepKeys4
namespace Go.Proofs.YtnogmjekhjldcaaGreatDoor
open Go.RowKit Go.Maps Go.Proofs.Tryz
set_option maxRecDepth 100000
set_option maxHeartbeats 8000000
section
variable {p s:Int} {b:Nat} {W:World}
theorem Tryz.laidOut:laidOutB prog=true:=by kernel_rfl
theorem Tryz.agl:(375:TypeId) < prog.types.size:=abU kr
theorem Tryz.ae1:(match prog.underlying 375 with | some (.array _ _) | some (.struct _)=>true | _=>false)=true:=by rw[Tryz.underlying375]
theorem Tryz.Ym:Keyed prog 375:=Keyed.of_law (deep_law_laid Tryz.laidOut (m:=2) om Tryz.agl kr Tryz.ae1)
theorem Tryz.agm (w:World):(zeroValue 3).run prog w=.ok (.int .i64 0) w:=by kernel_rfl
def stK (p s:Int):Lit:=.string (keyBytes [.int .i64 p,.int .i64 s])
theorem RI (a:(Lit.int .i64 p).wf=true) (e:(Lit.int .i64 s).wf=true):keyOf prog 375 (.agg #[.int .i64 p,.int .i64 s])=some (stK p s):=by
 have c0 : prog.cellsOf 375=2:=by kernel_rfl
 have c1 : prog.cellsOf 3=1:=by kernel_rfl
 have k1:∀(n:Nat) x,(Lit.int .i64 x).wf=true -> prog.keyLits (n+1) 3 [.int .i64 x]=some [.int .i64 x]:=fun n x f=>by
  unfold Program.keyLits;rw[Tryz.underlying3];simp[f]
 have h : prog.keyType 375=true:=by kernel_rfl
 have i:(Value.agg #[.int .i64 p,.int .i64 s]).formed prog 375=true:=by simp[Value.formed,Tryz.underlying375,c0]
 obtain⟨n,j⟩:∃n,prog.types.size=n+1:=⟨_,(show prog.types.size=(424 - 1)+1 by kernel_rfl)⟩;have k : prog.keyLits (prog.types.size+1) 375 (Value.agg #[.int .i64 p,.int .i64 s]).cells.toList=some [.int .i64 p,.int .i64 s]:=by
  rw[j];unfold Program.keyLits;rw[Tryz.underlying375];simp[Value.cells,c0,c1,k1,a,e]
 unfold keyOf;rw[Tryz.underlying375];simp only[h,i,k,Bool.and_self,mV,nX];rfl
theorem ae2 {a b:Int} (j:(Lit.int .i64 p).wf=true) (k:(Lit.int .i64 s).wf=true) (l:(Lit.int .i64 a).wf=true) (m:(Lit.int .i64 b).wf=true) (h:¬(p=a/\s=b)):stK p s≠stK a b:=by
 intro e;have f:=RI j k;rw[e]at f;have i := Tryz.Ym.inj f (RI l m);simp at i;exact h i
theorem acL (p s:Int):WideAt.IsKeyLit (stK p s):=trivial
def tmD:List (Int×Int×Int)->DataW Unit
 | []=>.map []
 | x::r=>(tmD r).put (stK x.1 x.2.1) (.lit (.int .i64 x.2.2))
def Pn:List (Int×Int×Int)->Int->Int->Int
 | [],_,_=>0
 | x::r,p,s=>if p=x.1/\s=x.2.1 then x.2.2 else Pn r p s
def small (x:Int×Int×Int):Prop:=0<=x.1/\x.1<=1000/\0<=x.2.1/\x.2.1<=1000/\0<=x.2.2/\x.2.2<=1000
theorem small_wf {n:Int} (a:0<=n) (e:n<=1000):(Lit.int .i64 n).wf=true:=by
 apply WalkArith.wf_i64 <;> omega
theorem Yn:∀l,IsMap (tmD l)
 | []=>⟨_,rfl⟩
 | x::r=>by
  obtain⟨a,h⟩:=Yn r;exact⟨_,by rw[tmD,h];rfl⟩
theorem aem (a:(Lit.int .i64 p).wf=true) (f:(Lit.int .i64 s).wf=true):∀(l:List (Int×Int×Int)),(∀x ∈ l,small x)->(tmD l).atKey (stK p s) (.lit (.int .i64 0))=.lit (.int .i64 (Pn l p s))
 | [],_=>rfl
 | x::r,h=>by
  obtain⟨i,j,k,m,_⟩:=h x (aeE ..);rw[tmD,Pn];by_cases e:p=x.1/\s=x.2.1
  ·rw[aj e,e.1,e.2];exact atKey_put_same (Yn r) (acL _ _) _ _
  ·rw[ak e,atKey_put_other (ae2 a f (small_wf i j) (small_wf k m) e)];exact aem a f r (fun y o=>h y (Oo _ o))
noncomputable def upW (b:Nat) (W:World) (x:Int×Int×Int):World :=
 match (Instr.mapUpdate 372 (.map (some b)) (.agg #[x.1,x.2.1]) x.2.2).run prog W with
 | .ok _ w'=>w'
 | _=>W
noncomputable def AQ (b:Nat) (W:World):List (Int×Int×Int)->World
 | []=>W
 | x::r=>upW b (AQ b W r) x
abbrev Om (W:World) (b:Nat) (l:List (Int×Int×Int)):Prop:=W.ownsMap prog 375 (plainElem prog 3) b l.length (tmD l)
theorem Yo {l:List (Int×Int×Int)} (h:Om W b l) (y:l.length < 100) (x:Int×Int×Int) (f:small x) :
  (Instr.mapUpdate 372 (.map (some b)) (.agg #[.int .i64 x.1,.int .i64 x.2.1]) (.int .i64 x.2.2)).run prog W=.ok () (upW b W x)/\Om (upW b W x) b (x::l)/\W.grownBy (upW b W x) (some b):=by
 obtain⟨i,j,k,m,o,q⟩:=f;obtain⟨w',a,u,w⟩:=World.ownsMap.update h Tryz.Ym Tryz.underlying372 (by unfold maxLen;omega) (RI (small_wf i j) (small_wf k m)) (plainElem_int Tryz.underlying3 (small_wf o q));have e:upW b W x=w':=by unfold upW;rw[a]
 rw[e];exact⟨a,u,w⟩
theorem DN (h:Om W b []):∀(l:List (Int×Int×Int)),l.length < 100->(∀x ∈ l,small x)->Om (AQ b W l) b l/\W.grownBy (AQ b W l) (some b)
 | [],_,_=>⟨h,⟨rfl,rfl,rfl,Nat.le_refl _,fun _ _ _=>rfl⟩⟩
 | x::r,hl,hs=>by
  have a:r.length < 100:=by simp at hl;omega
  obtain⟨e,f⟩:=DN h r a (fun y i=>hs y (Oo _ i));obtain⟨_,j,k⟩:=Yo e a x (hs x (aeE ..));exact⟨j,f.trans k⟩
theorem KY (h:Om W b []) (l:List (Int×Int×Int)) (a:l.length < 100) (e:∀x ∈ l,small x) (p s c:Int) (f:small (p,s,c)) :
  (Instr.mapUpdate 372 (.map (some b)) (.agg #[p,s]) c).run prog (AQ b W l)=.ok () (AQ b W ((p,s,c)::l)) :=
 (Yo (DN h l a e).1 a (p,s,c) f).1
theorem Yp (p s:Int) (h:p≠1):Pn [(2,3,5),(2,2,100),(2,1,10),(1,2,60)] p s=stay p s:=by
 unfold stay;simp only[Pn];by_cases e:p=2
 ·subst e;by_cases a:s=1
  ·subst a;decide
  by_cases b:s=2
  ·subst b;decide
  by_cases c:s=3
  ·subst c;decide
  simp[a,b,c]
 ·simp[h,e]
theorem Po (w:World) (l:List (Int×Int×Int)) (a:l.length < 100) (e:∀x ∈ l,small x):Om (AQ w (w.alloc (.map #[] 0)).drew l) w l/\Below w w (AQ w (w.alloc (.map #[] 0)).drew l):=by
 obtain⟨f,h⟩:=DN (W:=(w.alloc (.map #[] 0)).drew) (b:=w.heap.size) (World.ownsMap_made _ _ _ _) l a e;exact⟨f,(((aH _ _).alloc nL _).drew).grown h sM (fun j i=>by cases i;exact bJ _)⟩
theorem UK (w:World) (l:List (Int×Int×Int)) (e:l.length < 100) (a:∀x ∈ l,small x) (f:∀p s,Pn l p s=Pn [(2,3,5),(2,2,100),(2,1,10),(1,2,60)] p s) {b:Nat} (h:b=w.heap.size) :
  Ending.returned (.map (some b))=.returned (.map (some w))/\(∃l',Om (AQ w (w.alloc (.map #[] 0)).drew l) w l'/\(∀x ∈ l',small x)/\∀p s,Pn l' p s=Pn [(2,3,5),(2,2,100),(2,1,10),(1,2,60)] p s)/\Below w w (AQ w (w.alloc (.map #[] 0)).drew l):=by
 subst h;obtain⟨i,j⟩:=Po w l e a;exact⟨rfl,⟨l,i,a,f⟩,j⟩
theorem times_any (w:World):Calls prog 300 #[] w fun e w'=>e=.returned (.map (some w))/\(∃l,Om w' w l/\(∀x ∈ l,small x)/\∀p s,Pn l p s=Pn [(2,3,5),(2,2,100),(2,1,10),(1,2,60)] p s)/\Below w w w':=by
 have q:=@run_makeMap prog;have o:Hid (Om (w.alloc (.map #[] 0)).drew w []):=World.ownsMap_made _ _ _ _;have u:∀p s c:Int,0<=p->p<=1000->0<=s->s<=1000->0<=c->c<=1000->Sem.run prog (Instr.mapUpdate 372 (.map (some w)) (.agg #[p,s]) c) (w.alloc (.map #[] 0)).drew=.ok () (AQ w (w.alloc (.map #[] 0)).drew [(p,s,c)]) :=
  fun p s c a f i j k m=>KY o [] sM (fun _ h=>by cases h) p s c ⟨a,f,i,j,k,m⟩
 have y:∀l:List (Int×Int×Int),l.length < 100->(∀x ∈ l,small x)->∀p s c:Int,0<=p->p<=1000->0<=s->s<=1000->0<=c->c<=1000->Sem.run prog (Instr.mapUpdate 372 (.map (some w)) (.agg #[p,s]) c) (AQ w (w.alloc (.map #[] 0)).drew l)=.ok () (AQ w (w.alloc (.map #[] 0)).drew ((p,s,c)::l)) :=
  fun l z A p s c a f i j k m=>KY o l z A p s c ⟨a,f,i,j,k,m⟩
 have B:∀p s c:Int,small (p,s,c)=(0<=p/\p<=1000/\0<=s/\s<=1000/\0<=c/\c<=1000):=fun _ _ _=>rfl;go_enter func300,ntmps300;go_wp2_with fail;go_region;all_goals go_wp2_with fail
 all_goals go_ret
 all_goals refine UK w _ sM (by simp[small]) (fun p s=>?_) rfl
 all_goals simp only[Pn]
 all_goals (repeat' split) <;> omega
theorem RP {l:List (Int×Int×Int)} (h:Om W b l) (i:∀x ∈ l,small x) {p s:Int} (e:(Lit.int .i64 p).wf=true) (f:(Lit.int .i64 s).wf=true) :
  (Instr.lookup 372 (.map (some b)) (.agg #[p,s]) false).run prog W=.ok (.int .i64 (Pn l p s)) W:=by
 obtain⟨c,j,a,_⟩:=World.ownsMap.lookup_int h Tryz.Ym Tryz.underlying372 Tryz.underlying3 (Tryz.agm _) (RI e f);rw[aem e f l i]at a;injection a with a;injection a with _ a;rw[j,a]
theorem Yq (a st:Int) (w:World) (y:(Lit.int .i64 a).wf=true) (z:(Lit.int .i64 st).wf=true) :
  Calls prog 276 #[a,st] w fun e w'=>e=.returned (.int .i64 (stay a st))/\Below w w w':=by
 have A:Hid ((Lit.int .i64 a).wf=true):=y;have B:Hid ((Lit.int .i64 st).wf=true):=z;clear y z;by_cases h:a=1
 ·subst h;have q:Hid (stay 1 st=60):=rfl;go_enter func276,ntmps276;go_wp2_with fail;refine(times_any _).mono ?_;rintro e u ⟨rfl,⟨l,i,j,k⟩,m⟩;have f:=RP i j (p:=1) (s:=2) dC dC;rw[k 1 2]at f;have o:Pn [(2,3,5),(2,2,100),(2,1,10),(1,2,60)] 1 2=60:=by decide
  rw[o]at f;have x:Hid (Below w w u):=m;clear i j k o m;go_wp2_with fail;go_ret;refine⟨?_,x⟩;rw[q.out];rfl
 ·have q:Hid (Pn [(2,3,5),(2,2,100),(2,1,10),(1,2,60)] a st=stay a st):=Yp a st h;have i:(a==1)=false:=dG.2 h;clear h;go_enter func276,ntmps276;go_wp2_with fail;refine(times_any _).mono ?_;rintro e u ⟨rfl,⟨l,i,j,k⟩,m⟩;have f:=RP i j (p:=a) (s:=st) A B;rw[k a st,q.out]at f;have x:Hid (Below w w u):=m;clear i j k m;go_wp2_with fail;go_ret;exact⟨rfl,x⟩
end
end Go.Proofs.YtnogmjekhjldcaaGreatDoor
