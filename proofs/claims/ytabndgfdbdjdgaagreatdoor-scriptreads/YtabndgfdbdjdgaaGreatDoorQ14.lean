/-
  What the claimed theorem reaches, part Q14.
-/
import Derived.Test.YtabndgfdbdjdgaaGreatDoorQ13
import Derived.Maps.OwnOps
import Derived.Maps.Views
import Derived.Maps.AppendAt
import Derived.DeepKeys4
import Derived.Test.YtabndgfdbdjdgaaGreatDoorQ00
namespace Go.Proofs.YtabndgfdbdjdgaaGreatDoor
open Go.RowKit Go.Maps
set_option maxRecDepth 100000
set_option maxHeartbeats 8000000
section
variable {p s:Int} {b:Nat} {W:World}
theorem Tryz.laidOut:laidOutB Tryz.prog=true:=by kernel_rfl
theorem Tryz.rowSt:(329:TypeId) < Tryz.prog.types.size:=of_decide_eq_true (by kernel_rfl)
theorem Tryz.wideSt:(match Tryz.prog.underlying 329 with | some (.array _ _) | some (.struct _)=>true | _=>false)=true:=by rw[Tryz.underlying329]
theorem Tryz.lawSt:Keyed Tryz.prog 329:=Keyed.of_law (deep_law_laid Tryz.laidOut (m:=2) (by omega) Tryz.rowSt (by kernel_rfl) Tryz.wideSt)
theorem Tryz.zeroI (w:World):(zeroValue 3).run Tryz.prog w=.ok (.int .i64 0) w:=by kernel_rfl
def stK (p s:Int):Lit:=.string (keyBytes [.int .i64 p,.int .i64 s])
theorem stKey (hp:(Lit.int .i64 p).wf=true) (hs:(Lit.int .i64 s).wf=true):keyOf Tryz.prog 329 (.agg #[.int .i64 p,.int .i64 s])=some (stK p s):=by
 have c0 : Tryz.prog.cellsOf 329=2:=by kernel_rfl
 have c1 : Tryz.prog.cellsOf 3=1:=by kernel_rfl
 have k1:∀(n:Nat) x,(Lit.int .i64 x).wf=true -> Tryz.prog.keyLits (n+1) 3 [.int .i64 x]=some [.int .i64 x]:=fun n x hx=>by
  unfold Program.keyLits;rw[Tryz.underlying3];simp[hx]
 have kt : Tryz.prog.keyType 329=true:=by kernel_rfl
 have kf:(Value.agg #[.int .i64 p,.int .i64 s]).formed Tryz.prog 329=true:=by simp[Value.formed,Tryz.underlying329,c0]
 obtain⟨n,hn⟩:∃n,Tryz.prog.types.size=n+1:=⟨_,(show Tryz.prog.types.size=(375 - 1)+1 by kernel_rfl)⟩
 have kl : Tryz.prog.keyLits (Tryz.prog.types.size+1) 329 (Value.agg #[.int .i64 p,.int .i64 s]).cells.toList=some [.int .i64 p,.int .i64 s]:=by
  rw[hn];unfold Program.keyLits;rw[Tryz.underlying329];simp[Value.cells,c0,c1,k1,hp,hs]
 unfold keyOf
 rw[Tryz.underlying329]
 simp only[kt,kf,kl,Bool.and_self,if_true,Option.map_some]
 rfl
theorem stK_ne {a b:Int} (hp:(Lit.int .i64 p).wf=true) (hs:(Lit.int .i64 s).wf=true) (ha:(Lit.int .i64 a).wf=true) (hb:(Lit.int .i64 b).wf=true) (h:¬(p=a/\s=b)):stK p s≠stK a b:=by
 intro e
 have h1:=stKey hp hs
 rw[e]at h1
 have h2 := Tryz.lawSt.inj h1 (stKey ha hb)
 simp at h2
 exact h h2
theorem stK_key (p s:Int):WideAt.IsKeyLit (stK p s):=trivial
def tmD:List (Int×Int×Int)->DataW Unit
 | []=>.map []
 | x::r=>(tmD r).put (stK x.1 x.2.1) (.lit (.int .i64 x.2.2))
def tmV:List (Int×Int×Int)->Int->Int->Int
 | [],_,_=>0
 | x::r,p,s=>if p=x.1/\s=x.2.1 then x.2.2 else tmV r p s
def small (x:Int×Int×Int):Prop:=0<=x.1/\x.1<=1000/\0<=x.2.1/\x.2.1<=1000/\0<=x.2.2/\x.2.2<=1000
theorem small_wf {n:Int} (h0:0<=n) (h1:n<=1000):(Lit.int .i64 n).wf=true:=by
 apply WalkArith.wf_i64 <;> omega
theorem tm_map:∀l,IsMap (tmD l)
 | []=>⟨_,rfl⟩
 | x::r=>by
  obtain⟨es,h⟩:=tm_map r
  exact⟨_,by rw[tmD,h];rfl⟩
theorem tm_at (hp:(Lit.int .i64 p).wf=true) (hs:(Lit.int .i64 s).wf=true):∀(l:List (Int×Int×Int)),(∀x ∈ l,small x)->(tmD l).atKey (stK p s) (.lit (.int .i64 0))=.lit (.int .i64 (tmV l p s))
 | [],_=>rfl
 | x::r,h=>by
  obtain⟨h0,h1,h2,h3,_⟩:=h x (List.mem_cons_self ..)
  rw[tmD,tmV]
  by_cases e:p=x.1/\s=x.2.1
  ·rw[if_pos e,e.1,e.2];exact atKey_put_same (tm_map r) (stK_key _ _) _ _
  ·rw[if_neg e,atKey_put_other (stK_ne hp hs (small_wf h0 h1) (small_wf h2 h3) e)]
   exact tm_at hp hs r (fun y hy=>h y (List.mem_cons_of_mem _ hy))
noncomputable def upW (b:Nat) (W:World) (x:Int×Int×Int):World :=
 match (Instr.mapUpdate 326 (.map (some b)) (.agg #[x.1,x.2.1]) x.2.2).run Tryz.prog W with
 | .ok _ w'=>w'
 | _=>W
noncomputable def mapW (b:Nat) (W:World):List (Int×Int×Int)->World
 | []=>W
 | x::r=>upW b (mapW b W r) x
abbrev Om (W:World) (b:Nat) (l:List (Int×Int×Int)):Prop:=W.ownsMap Tryz.prog 329 (plainElem Tryz.prog 3) b l.length (tmD l)
theorem up_run {l:List (Int×Int×Int)} (h:Om W b l) (hl:l.length < 100) (x:Int×Int×Int) (hx:small x) :
  (Instr.mapUpdate 326 (.map (some b)) (.agg #[.int .i64 x.1,.int .i64 x.2.1]) (.int .i64 x.2.2)).run Tryz.prog W=.ok () (upW b W x)/\Om (upW b W x) b (x::l)/\W.grownBy (upW b W x) (some b):=by
 obtain⟨h0,h1,h2,h3,h4,h5⟩:=hx
 obtain⟨w',r1,r2,r3⟩:=World.ownsMap.update h Tryz.lawSt Tryz.underlying326 (by unfold maxLen;omega) (stKey (small_wf h0 h1) (small_wf h2 h3)) (plainElem_int Tryz.underlying3 (small_wf h4 h5))
 have e:upW b W x=w':=by unfold upW;rw[r1]
 rw[e]
 exact⟨r1,r2,r3⟩
theorem mapW_own (h:Om W b []):∀(l:List (Int×Int×Int)),l.length < 100->(∀x ∈ l,small x)->Om (mapW b W l) b l/\W.grownBy (mapW b W l) (some b)
 | [],_,_=>⟨h,⟨rfl,rfl,rfl,Nat.le_refl _,fun _ _ _=>rfl⟩⟩
 | x::r,hl,hs=>by
  have hl':r.length < 100:=by simp at hl;omega
  obtain⟨h1,h2⟩:=mapW_own h r hl' (fun y hy=>hs y (List.mem_cons_of_mem _ hy))
  obtain⟨_,h3,h4⟩:=up_run h1 hl' x (hs x (List.mem_cons_self ..))
  exact⟨h3,h2.trans h4⟩
theorem mapW_run (h:Om W b []) (l:List (Int×Int×Int)) (hl:l.length < 100) (hs:∀x ∈ l,small x) (p s c:Int) (hx:small (p,s,c)) :
  (Instr.mapUpdate 326 (.map (some b)) (.agg #[p,s]) c).run Tryz.prog (mapW b W l)=.ok () (mapW b W ((p,s,c)::l)) :=
 (up_run (mapW_own h l hl hs).1 hl (p,s,c) hx).1
theorem tmV_stay (p s:Int) (h:p≠1):tmV [(2,3,5),(2,2,100),(2,1,10),(1,2,60)] p s=stay p s:=by
 unfold stay
 simp only[tmV]
 by_cases h2:p=2
 ·subst h2
  by_cases a:s=1
  ·subst a;decide
  by_cases b:s=2
  ·subst b;decide
  by_cases c:s=3
  ·subst c;decide
  simp[a,b,c]
 ·simp[h,h2]
theorem mapW_below (w:World) (l:List (Int×Int×Int)) (hl:l.length < 100) (hs:∀x ∈ l,small x):Om (mapW w (w.alloc (.map #[] 0)).drew l) w l/\Below w w (mapW w (w.alloc (.map #[] 0)).drew l):=by
 obtain⟨h1,h2⟩:=mapW_own (W:=(w.alloc (.map #[] 0)).drew) (b:=w.heap.size) (World.ownsMap_made _ _ _ _) l hl hs
 exact⟨h1,(((Below.refl _ _).alloc (Nat.le_refl _) _).drew).grown h2 (by simp) (fun j hj=>by cases hj;exact Nat.le_refl _)⟩
theorem times_end (w:World) (l:List (Int×Int×Int)) (hl:l.length < 100) (hs:∀x ∈ l,small x) (hv:∀p s,tmV l p s=tmV [(2,3,5),(2,2,100),(2,1,10),(1,2,60)] p s) {b:Nat} (hb:b=w.heap.size) :
  Ending.returned (.map (some b))=.returned (.map (some w))/\(∃l',Om (mapW w (w.alloc (.map #[] 0)).drew l) w l'/\(∀x ∈ l',small x)/\∀p s,tmV l' p s=tmV [(2,3,5),(2,2,100),(2,1,10),(1,2,60)] p s)/\Below w w (mapW w (w.alloc (.map #[] 0)).drew l):=by
 subst hb
 obtain⟨h1,h2⟩:=mapW_below w l hl hs
 exact⟨rfl,⟨l,h1,hs,hv⟩,h2⟩
theorem times_any (w:World):Calls Tryz.prog 247 #[] w fun e w'=>e=.returned (.map (some w))/\(∃l,Om w' w l/\(∀x ∈ l,small x)/\∀p s,tmV l p s=tmV [(2,3,5),(2,2,100),(2,1,10),(1,2,60)] p s)/\Below w w w':=by
 have hmm:=@run_makeMap Tryz.prog
 have H0:Hid (Om (w.alloc (.map #[] 0)).drew w []):=World.ownsMap_made _ _ _ _
 have hr0:∀p s c:Int,0<=p->p<=1000->0<=s->s<=1000->0<=c->c<=1000->Sem.run Tryz.prog (Instr.mapUpdate 326 (.map (some w)) (.agg #[p,s]) c) (w.alloc (.map #[] 0)).drew=.ok () (mapW w (w.alloc (.map #[] 0)).drew [(p,s,c)]) :=
  fun p s c a0 a1 a2 a3 a4 a5=>mapW_run H0 [] (by simp) (fun _ h=>by cases h) p s c ⟨a0,a1,a2,a3,a4,a5⟩
 have hr1:∀l:List (Int×Int×Int),l.length < 100->(∀x ∈ l,small x)->∀p s c:Int,0<=p->p<=1000->0<=s->s<=1000->0<=c->c<=1000->Sem.run Tryz.prog (Instr.mapUpdate 326 (.map (some w)) (.agg #[p,s]) c) (mapW w (w.alloc (.map #[] 0)).drew l)=.ok () (mapW w (w.alloc (.map #[] 0)).drew ((p,s,c)::l)) :=
  fun l hl hs p s c a0 a1 a2 a3 a4 a5=>mapW_run H0 l hl hs p s c ⟨a0,a1,a2,a3,a4,a5⟩
 have hsm:∀p s c:Int,small (p,s,c)=(0<=p/\p<=1000/\0<=s/\s<=1000/\0<=c/\c<=1000):=fun _ _ _=>rfl
 go_enter Tryz.func247,Tryz.ntmps247
 go_wp2_with fail
 go_region
 all_goals go_wp2_with fail
 all_goals go_ret
 all_goals refine times_end w _ (by simp) (by simp[small]) (fun p s=>?_) rfl
 all_goals simp only[tmV]
 all_goals (repeat' split) <;> omega
theorem om_look {l:List (Int×Int×Int)} (h:Om W b l) (hs:∀x ∈ l,small x) {p s:Int} (hp:(Lit.int .i64 p).wf=true) (hq:(Lit.int .i64 s).wf=true) :
  (Instr.lookup 326 (.map (some b)) (.agg #[p,s]) false).run Tryz.prog W=.ok (.int .i64 (tmV l p s)) W:=by
 obtain⟨c,h1,h2,_⟩:=World.ownsMap.lookup_int h Tryz.lawSt Tryz.underlying326 Tryz.underlying3 (Tryz.zeroI _) (stKey hp hq)
 rw[tm_at hp hq l hs]at h2
 injection h2 with h2;injection h2 with _ h2
 rw[h1,h2]
theorem time_any (pr st:Int) (w:World) (hp:(Lit.int .i64 pr).wf=true) (hs:(Lit.int .i64 st).wf=true) :
  Calls Tryz.prog 226 #[pr,st] w fun e w'=>e=.returned (.int .i64 (stay pr st))/\Below w w w':=by
 have HP:Hid ((Lit.int .i64 pr).wf=true):=hp
 have HS:Hid ((Lit.int .i64 st).wf=true):=hs
 clear hp hs
 by_cases h:pr=1
 ·subst h
  have HV:Hid (stay 1 st=60):=rfl
  go_enter Tryz.func226,Tryz.ntmps226
  go_wp2_with fail
  refine(times_any _).mono ?_
  rintro e w1 ⟨rfl,⟨l,h1,h2,h3⟩,hb⟩
  have hlk:=om_look h1 h2 (p:=1) (s:=2) (by decide) (by decide)
  rw[h3 1 2]at hlk
  have e60:tmV [(2,3,5),(2,2,100),(2,1,10),(1,2,60)] 1 2=60:=by decide
  rw[e60]at hlk
  have HB:Hid (Below w w w1):=hb
  clear h1 h2 h3 e60 hb
  go_wp2_with fail
  go_ret
  refine⟨?_,HB⟩
  rw[HV.out]
  rfl
 ·have HV:Hid (tmV [(2,3,5),(2,2,100),(2,1,10),(1,2,60)] pr st=stay pr st):=tmV_stay pr st h
  have h1:(pr==1)=false:=beq_eq_false_iff_ne.2 h
  clear h
  go_enter Tryz.func226,Tryz.ntmps226
  go_wp2_with fail
  refine(times_any _).mono ?_
  rintro e w1 ⟨rfl,⟨l,h1,h2,h3⟩,hb⟩
  have hlk:=om_look h1 h2 (p:=pr) (s:=st) HP HS
  rw[h3 pr st,HV.out]at hlk
  have HB:Hid (Below w w w1):=hb
  clear h1 h2 h3 hb
  go_wp2_with fail
  go_ret
  exact⟨rfl,HB⟩
end
end Go.Proofs.YtabndgfdbdjdgaaGreatDoor
