/-
  What the claimed theorem reaches, part Q09.
-/
import Derived.Test.YtnogmjekhjldcaaGreatDoorQ07
import Derived.Maps.OwnOps
import Derived.Maps.OwnSet
namespace Go.Proofs.YtnogmjekhjldcaaGreatDoor
open Go.RowKit Go.Maps Go.Proofs.Tryz
set_option maxRecDepth 100000
set_option maxHeartbeats 8000000
section
variable {w w':World} {Z b c M n X:Nat} {T:Tb} {L:List Nat} {D:To}
theorem nC (cs:Array Value) (p:Nat) (a:List Value) (h:p+a.length<=cs.size) (q:Nat):((cs.toList.take p++a++cs.toList.drop (p+a.length)).toArray)[q]? = if p<=q/\q < p+a.length then a[q - p]? else cs[q]? := by
 have e:(cs.toList.take p).length=p:=by rw[qE,xC];omega
 rw[vW];by_cases f:q < p
 ·rw[ak om,WQ,qW om,kG,aj f,sQ]
 ·by_cases i:q < p+a.length
  ·rw[aj om,qW (by rw[jw,e];omega),xA om,e]
  ·rw[ak om,xA (by rw[jw,e];omega),jw,e,JE,sQ];congr 1
   omega
theorem kM (cs:Array Value) (p:Nat) (a:List Value) (h:p+a.length<=cs.size):((cs.toList.take p++a++cs.toList.drop (p+a.length)).toArray).size=cs.size:=by
 simp only[Fa,jw,qE,JF,xC];omega
def Bd (T:Tb) (s:Nat):List Value:=[s,(T s).ve,(T s).pr,(T s).ia,(T s).ip,(T s).fa,(T s).fp,(T s).po,(T s).st,(T s).un]
theorem rG (T:Tb) (s:Nat):(Bd T s).length=10:=rfl
theorem XU (T:Tb) (s k:Nat) (e:k < 10):(Bd T s)[k]? = some (.int .i64 ((T s).get s k)):=by
 have a:k=0\/k=1\/k=2\/k=3\/k=4\/k=5\/k=6\/k=7\/k=8\/k=9:=by omega
 rcases a with rfl | rfl | rfl | rfl | rfl | rfl | rfl | rfl | rfl | rfl <;> rfl
theorem xU (T:Tb) (s:Nat):∀u ∈ Bd T s,u.oneCell'=true:=fun u a=>by
 simp only[Bd,dI,eY,fA]at a;rcases a with rfl | rfl | rfl | rfl | rfl | rfl | rfl | rfl | rfl | rfl <;> rfl
def iK (T:Tb):List Nat->List Value
 | []=>[]
 | s::l=>Bd T s++iK T l
theorem xW (T:Tb):∀B:List Nat,(iK T B).length=B.length * 10
 | []=>rfl
 | s::l=>by rw[iK,List.length_append,rG,xW T l,List.length_cons];omega
theorem KE (T:Tb):∀B:List Nat,∀u ∈ iK T B,u.oneCell'=true
 | [],_,hu=>by simp[iK]at hu
 | s::l,u,hu=>by
  rw[iK,List.mem_append]at hu;rcases hu with h | h
  ·exact xU T s u h
  ·exact KE T l u h
theorem Dl (T:Tb):∀A B:List Nat,iK T (A++B)=iK T A++iK T B
 | [],_=>rfl
 | s::l,B=>by rw[List.cons_append,iK,Dl T l B,iK,List.append_assoc]
theorem IL (T:Tb):∀(B:List Nat) (j s k:Nat),B[j]? = some s->k < 10->(iK T B)[j * 10+k]? = some (.int .i64 ((T s).get s k))
 | [],_,_,_,h,_=>by simp at h
 | x::l,0,s,k,h,hk=>by
  simp only[List.getElem?_cons_zero,Option.some.injEq]at h;subst h;rw[iK,List.getElem?_append_left (by rw[rG];omega),Nat.zero_mul,Nat.zero_add,XU T x k hk]
 | x::l,j+1,s,k,h,hk=>by
  rw[List.getElem?_cons_succ]at h;rw[iK,List.getElem?_append_right (by rw[rG];omega),rG,show(j+1) * 10+k - 10=j * 10+k from by omega];exact IL T l j s k h hk
def dF (w:World) (Z:Nat) (T:Tb) (L:List Nat):Prop:=∃cs:Array Value,w.heap[Z]? = some (.cells cs 117 (0,0))/\cs.size=80/\∀j s:Nat,L[j]? = some s->∀k,k < 10->cs[j * 10+k]? = some (.int .i64 ((T s).get s k))
theorem dF.at' (h:dF w Z T L) {j s k:Nat} (a:L[j]? = some s) (e:k < 10):w.cell? (Z,j * 10+k)=some (.int .i64 ((T s).get s k)):=by
 obtain⟨cs,f,_,i⟩:=h;rw[aP w Z _ _ _ _ f,i j s a k e]
theorem dF.lt (h:dF w Z T L):Z < w.heap.size:=by
 obtain⟨cs,e,_,_⟩:=h;rcases dX Z w with a | a
 ·exact a
 ·rw[eP a]at e;cases e
theorem dF.below (h:dF w Z T L) (a:Below w w w'):dF w' Z T L:=by
 have e:=h.lt;obtain⟨cs,f,i⟩:=h;exact⟨cs,by rw[a.block Z e];exact f,i⟩
theorem dF.dO (h:dF w Z T L) (a:aC b w w') (e:Z≠b):dF w' Z T L:=by
 have f:=h.lt;obtain⟨cs,i,j⟩:=h;exact⟨cs,by rw[a.block Z f e];exact i,j⟩
theorem dF.AB (h:dF w Z T L) (a:bW b c w w') (e:Z≠b) (f:Z≠c):dF w' Z T L:=by
 have i:=h.lt;obtain⟨cs,j,k⟩:=h;exact⟨cs,by rw[a.block Z i e f];exact j,k⟩
theorem dF.take (h:dF w Z T L) (n:Nat):dF w Z T (L.take n):=by
 obtain⟨cs,e,f,i⟩:=h;refine⟨cs,e,f,fun j s a=>i j s ?_⟩;rw[kG]at a;split at a
 ·exact a
 ·cases a
theorem pW (w:World) (b:Nat) (cs:Array Value):aC b w (w.setRow b cs) :=
 ⟨rfl,rfl,rfl,by simp[World.setRow],fun k _ a=>by simp only[World.setRow];rw[ab2,ak (fun e=>a e.symm)]⟩
theorem Tryz.XV:∃i,prog.info? 117=some i/\i.size=10:=by
 obtain⟨i,e,a⟩:=Option.map_eq_some_iff.1 Tryz.tu;simp only[Prod.mk.injEq]at a;exact⟨i,e,a.2.1⟩
theorem xX (h:dF w Z T L) (B:List Nat) (a:Addr) (c:Nat) (A:TypeId) (C:∀j u,(iK T B)[j]? = some u->w.cell? (a.add j)=some u) (E:L.length+B.length<=8) :
  ∃w',(Builtin.append_ #[84,84] A #[.slice (some (Z,0)) L.length 8,.slice (some a) B.length c]).run prog w=.ok (.slice (some (Z,0)) (L.length+B.length) 8) w'/\dF w' Z T (L++B)/\aC Z w w':=by
 obtain⟨cs,s,F,G⟩:=h;obtain⟨i,H,o⟩ := Tryz.XV;have y:=ab4 (P := prog) w i.size B.length a B.length c (iK T B) (by rw[o];exact xW T B) C;have e:L.length * 10+(iK T B).length<=cs.size:=by rw[xW];omega
 have l:=Ii prog Z (L.length * 10) 117 (iK T B) 0 cs w s e (KE T B);rw[oV]at l;refine⟨w.setRow Z (cs.toList.take (L.length * 10)++iK T B++cs.toList.drop (L.length * 10+(iK T B).length)).toArray,?_,⟨_,Cc w Z cs _ _ _ s,by rw[kM _ _ _ e];exact F,fun j x m k z=>?_⟩,pW _ _ _⟩
 ·have f:L.length+B.length<=8:=E;rw[o]at y;simp[Builtin.append_,run_underlying Tryz.underlying84,sizeOf,typeInfo,H,o,Builtin.lenOf,f,y,Addr.add_lit,l]
 ·rw[nC _ _ _ e,xW];rcases dX j L.length with p | q
  ·rw[qW p]at m;rw[ak om];exact G j x m k z
  ·rw[xA q]at m;have I:=(List.getElem?_eq_some_iff.1 m).1;rw[aj om,show j * 10+k - L.length * 10=(j - L.length) * 10+k from by omega];exact IL T B _ x k m z
theorem KF (h:dF w Z T L) (a:Addr) (s c:Nat) (e:TypeId) (f:∀j u,(Bd T s)[j]? = some u->w.cell? (a.add j)=some u) (i:L.length < 8) :
  ∃w',(Builtin.append_ #[84,84] e #[.slice (some (Z,0)) L.length 8,.slice (some a) 1 c]).run prog w=.ok (.slice (some (Z,0)) (L.length+1) 8) w'/\dF w' Z T (L++[s])/\aC Z w w' :=
 xX h [s] a c e (by rw[iK,iK,JH];exact f) i
theorem aN {P:Program} {e:Array Oper} {rest:List Oper} {o:Oper} {a:Act} {Q:Exit->Act->World->Prop} (f:o.guard=none) (s x:Operand) (t:TypeId) (i:o.op=.call {callee:=.builtin .append,args:=#[s,x],argTypes:=#[t,t]})
  (u v v':Value) (w':World) (j:a.eval s=u) (k:a.eval x=v) (hr:(Builtin.append_ #[t,t] o.type #[u,v]).run P w=.ok v' w') (h:wpList P e Q rest (a.put o.dst v') w'):wpList P e Q (o::rest) a w:=by
 refine Xd f fun K l=>?_;unfold Oper.wp execOp;simp only[i,resolve,invoke,builtin,nM,qX,pR,List.map_toArray,WW,TP,j,k,hr];exact l _ _ h
theorem aA {P:Program} {e:Array Oper} {rest:List Oper} {o:Oper} {a:Act} {Q:Exit->Act->World->Prop} (f:o.guard=none) (i:TypeId) (x y:Operand) (j:o.op=.store i x y)
  (u v:Value) (w':World) (k:a.eval x=u) (l:a.eval y=v) (m:(Instr.storeAt i u v).run P w=.ok () w') (h:wpList P e Q rest (a.put o.dst undef) w'):wpList P e Q (o::rest) a w :=
 Xd f fun K p=>by
  unfold Oper.wp execOp;simp only[j,k,l,nM,m,pR,qX];exact p _ _ h
def jG (w:World) (M n:Nat) (D:To):Prop:=∃d:DataW Unit,w.ownsMap prog 3 (plainElem prog 3) M n d/\∀k:Nat,k < 32->d.atKey (.int .i64 k) (.lit (.int .i64 0))=.lit (.int .i64 (D k))
theorem agd:Keyed prog 3:=int_keyed Tryz.underlying3
theorem agf (w:World):(zeroValue 3).run prog w=.ok (.int .i64 0) w:=by kernel_rfl
theorem wfI {x:Int} (a : -1000000<=x) (e:x<=1000000000):(Lit.int .i64 x).wf=true:=WalkArith.wf_i64 om
theorem jG.dO (h:jG w M n D) (a:aC b w w') (f:M≠b):jG w' M n D:=by
 obtain⟨d,i,j⟩:=h;exact⟨d,i.kept (row:=some b) ⟨a.os,a.tape,a.output,a.size,fun k l e=>a.block k l (by simpa using e)⟩ (by simpa using f),j⟩
theorem jG.AB (h:jG w M n D) (e:bW b c w w') (f:M≠b) (i:M≠c):jG w' M n D:=by
 obtain⟨d,a,j⟩:=h;have k:=a.lt;obtain⟨l,m,o,p⟩:=a;exact⟨d,⟨l,m,by rw[e.block M k f i];exact o,p⟩,j⟩
theorem jG.below (h:jG w M n D) (e:Below w w w'):jG w' M n D:=by
 obtain⟨d,a,f⟩:=h;have i:=a.lt;exact(jG.dO (b:=M+1) ⟨d,a,f⟩ (aC.of e) om)
theorem jG.lt (h:jG w M n D):M < w.heap.size:=by
 obtain⟨d,a,e⟩:=h;exact a.lt
theorem XW (w:World):jG (w.alloc (.map #[] 0)) w 0 (fun _=>0):=⟨.map [],World.ownsMap_made _ _ _ _,fun _ _=>rfl⟩
structure uK (w:World) (X b M n:Nat) (D:To) (c:Nat):Prop where
 c0:w.cell? (X,0)=some (.pointer (some (b,0)))
 c1:w.cell? (X,1)=some (.map (some M))
 c2:w.cell? (X,2)=c
 f2:w.frozen? (X,2)=false
 m:jG w M n D
 ne:X≠M
 lt:c < 32
theorem uK.below (h:uK w X b M n D c) (a:Below w w w'):uK w' X b M n D c :=
 ⟨tk a h.c0,tk a h.c1,tk a h.c2,(aV (a.block X (eF h.c0))).trans h.f2,h.m.below a,h.ne,h.lt⟩
theorem uK.dO {g:Nat} (h:uK w X b M n D c) (a:aC g w w') (e:X≠g) (f:M≠g):uK w' X b M n D c :=
 ⟨a.keeps e h.c0,a.keeps e h.c1,a.keeps e h.c2,(aV (a.block X (eF h.c0) e)).trans h.f2,h.m.dO a f,h.ne,h.lt⟩
theorem uK.AB {g i:Nat} (h:uK w X b M n D c) (e:bW g i w w') (f:X≠g) (a:X≠i) (k:M≠g) (j:M≠i):uK w' X b M n D c :=
 ⟨e.keeps f a h.c0,e.keeps f a h.c1,e.keeps f a h.c2,(aV (e.block X (eF h.c0) f a)).trans h.f2,h.m.AB e k j,h.ne,h.lt⟩
theorem uK.cur (h:uK w X b M n D c) {c':Nat} (a:c' < 32):uK (w.setCell (X,2) c') X b M n D c' where
 c0:=by rw[lT _ _ _ _ sM];exact h.c0
 c1:=by rw[lT _ _ _ _ sM];exact h.c1
 c2:=WO w _ _ (by rw[h.c2];rfl)
 f2:=(xB _ _ _ _).trans h.f2
 m:=h.m.dO (aC.set X 2 w _) (fun e=>h.ne e.symm)
 ne:=h.ne
 lt:=a
end
theorem acG {H:Type} {a b:Int} (h:(DataW.lit (.int .i64 a):DataW H)=.lit (.int .i64 b)):a=b:=by cases h;rfl
theorem jG.look {w:World} {M n:Nat} {D:To} (h:jG w M n D) {k:Nat} (i:k < 32):(Instr.lookup 227 (.map (some M)) (.int .i64 k) false).run prog w=.ok (.int .i64 (D k)) w:=by
 obtain⟨d,j,l⟩:=h;obtain⟨c,a,f,_⟩:=j.lookup_int agd Tryz.underlying227 Tryz.underlying3 (agf _) (keyOf_int_mk Tryz.underlying3 (wfI (x:=k) om om));have e:=(l k i).symm.trans f;have m:=acG e;subst m;exact a
structure qM (w:World) (b:Nat) (T:Tb) (s:Nat):Prop where
 c0:w.cell? (b,0)=s
 c1:w.cell? (b,1)=(T s).ve
 c2:w.cell? (b,2)=(T s).pr
 c3:w.cell? (b,3)=(T s).ia
 c4:w.cell? (b,4)=(T s).ip
 c5:w.cell? (b,5)=(T s).fa
 c6:w.cell? (b,6)=(T s).fp
 c7:w.cell? (b,7)=(T s).po
 c8:w.cell? (b,8)=(T s).st
 c9:w.cell? (b,9)=(T s).un
theorem qM.below {w w':World} {b:Nat} {T:Tb} {s:Nat} (h:qM w b T s) (a:Below w w w'):qM w' b T s :=
 ⟨tk a h.c0,tk a h.c1,tk a h.c2,tk a h.c3,tk a h.c4,tk a h.c5,tk a h.c6,tk a h.c7,tk a h.c8,tk a h.c9⟩
theorem qM.dO {w w':World} {b g:Nat} {T:Tb} {s:Nat} (h:qM w b T s) (a:aC g w w') (e:b≠g):qM w' b T s :=
 ⟨a.keeps e h.c0,a.keeps e h.c1,a.keeps e h.c2,a.keeps e h.c3,a.keeps e h.c4,a.keeps e h.c5,a.keeps e h.c6,a.keeps e h.c7,a.keeps e h.c8,a.keeps e h.c9⟩
theorem qN (w:World) (T:Tb) (s:Nat):qM (w.alloc (.cells #[s,(T s).ve,(T s).pr,(T s).ia,(T s).ip,(T s).fa,(T s).fp,(T s).po,(T s).st,(T s).un] 117)) w T s :=
 ⟨(nw _ _ _ _).trans rfl,(nw _ _ _ _).trans rfl,(nw _ _ _ _).trans rfl,(nw _ _ _ _).trans rfl,(nw _ _ _ _).trans rfl,(nw _ _ _ _).trans rfl,(nw _ _ _ _).trans rfl,(nw _ _ _ _).trans rfl,(nw _ _ _ _).trans rfl,(nw _ _ _ _).trans rfl⟩
theorem Uu {w:World} {V:Nat} {cs:Array Value} (T:Tb) (s:Nat) (h:w.heap[V]? = some (.cells cs 117 (0,0))) (m:cs.size=10) :
  ∃w',(Instr.storeAt 117 (.pointer (some (V,0))) (cellV s (T s))).run prog w=.ok () w'/\qM w' V T s/\aC V w w':=by
 have i:(sizeOf 117).run prog w=.ok 10 w:=by kernel_rfl
 have e:=Ii prog V 0 117 (Bd T s) 0 cs w h (by rw[rG];omega) (xU T s);have f:0+(Bd T s).length<=cs.size:=by rw[rG];omega
 have j:=Cc w V cs (cs.toList.take 0++Bd T s++cs.toList.drop (0+(Bd T s).length)).toArray _ _ h;have a:∀k,k < 10->(w.setRow V (cs.toList.take 0++Bd T s++cs.toList.drop (0+(Bd T s).length)).toArray).cell? ⟨V,k,none⟩=some (.int .i64 ((T s).get s k)):=fun k l=>by
  rw[aP _ V _ _ _ _ j,nC _ _ _ f,rG,aj om,Nat.sub_zero,XU T s k l]
 refine⟨_,?_,⟨a 0 om,a 1 om,a 2 om,a 3 om,a 4 om,a 5 om,a 6 om,a 7 om,a 8 om,a 9 om⟩,pW _ _ _⟩;simp only[Instr.storeAt,Instr.sureAddr,nM,qX,pR,storeVar,i,Value.cells,cellV];simp;simpa [Bd] using e
theorem Gv (X b:Nat) (low:Int) (T:Tb) (j:Nat) (w:World) (c0:w.cell? (X,0)=some (.pointer (some (b,0)))) (t:Tab w b low T) (q:j < 32) :
  Calls prog 306 #[.pointer (some (X,0)),j] w fun e w'=>e=.returned (cellV j (T j))/\Below w w w':=by
 have o:=jH t;have k:=eF c0;simp only at k;clear t;go_enter func306,ntmps306;go_wp2_with fail;have p:(w.alloc (.cells #[.int .i64 0,.int .i64 0,.int .i64 0,.int .i64 0,.int .i64 0,.int .i64 0,.int .i64 0,.int .i64 0,.int .i64 0,.int .i64 0] 117)).heap[w.heap.size]? = some (.cells #[.int .i64 0,.int .i64 0,.int .i64 0,.int .i64 0,.int .i64 0,.int .i64 0,.int .i64 0,.int .i64 0,.int .i64 0,.int .i64 0] 117 (0,0)):=dh _ _;have l:Hid (Below w w (w.alloc (.cells #[.int .i64 0,.int .i64 0,.int .i64 0,.int .i64 0,.int .i64 0,.int .i64 0,.int .i64 0,.int .i64 0,.int .i64 0,.int .i64 0] 117))):=aB _ _;have s:(w.alloc (.cells #[.int .i64 0,.int .i64 0,.int .i64 0,.int .i64 0,.int .i64 0,.int .i64 0,.int .i64 0,.int .i64 0,.int .i64 0,.int .i64 0] 117)).heap.size=w.heap.size+1:=by simp
 generalize w.alloc (.cells #[.int .i64 0,.int .i64 0,.int .i64 0,.int .i64 0,.int .i64 0,.int .i64 0,.int .i64 0,.int .i64 0,.int .i64 0,.int .i64 0] 117)=w0 at *;refine jM (XT b low T j w0 (o.below l) q) fun x f=>?_;have h:=f.alloc f.size (.cells #[j,(T j).ve,(T j).pr,(T j).ia,(T j).ip,(T j).fa,(T j).fp,(T j).po,(T j).st,(T j).un] 117);obtain⟨w2,m,a,i⟩:=Uu T j ((h.block _ om).trans p) rfl;have u:=jH (aC.below (t2 l h) i nL);have c0:=a.c0;have c1:=a.c1;have c2:=a.c2;have c3:=a.c3;have c4:=a.c4;have c5:=a.c5;have c6:=a.c6;have c7:=a.c7;have c8:=a.c8;have c9:=a.c9;clear f h a i p s l o;unfold cellV at *;go_wp2_with (refine aA rfl 117 _ _ rfl _ _ _ rfl rfl m ?_)
 exact bf (by simp[results,results306,go_sem,cellV,c0,c1,c2,c3,c4,c5,c6,c7,c8,c9]) rfl ⟨rfl,u⟩
def nU (T:Tb) (D:To) (j:Nat):List Nat:=(List.range j).filter fun i=>(T i).ve != D i
theorem Uw {T:Tb} {D:To} {j:Nat} (h:(T j).ve≠D j):nU T D (j+1)=nU T D j++[j]:=by
 unfold nU;rw[ace,WY];simp[h]
theorem XY {T:Tb} {D:To} {j:Nat} (h:(T j).ve=D j):nU T D (j+1)=nU T D j:=by
 unfold nU;rw[ace,WY];simp[h]
theorem Ux (T:Tb) (D:To) (j:Nat):(nU T D j).length<=j:=by
 have:=List.length_filter_le (fun i=>(T i).ve != D i) (List.range j);rw[List.length_range]at this;exact this
theorem tJ {w w':World} {base:Nat} {e:TypeId} {a:Nat} {v:Value} {n:Nat} {xs:List Value} (h:w.ownsRow base e a v n xs) (i:Below w w w'):w'.ownsRow base e a v n xs:=by
 obtain⟨j,k⟩:=h;refine⟨j,?_⟩;rcases k with h | ⟨g,cap,cur,l,m,f,r⟩
 ·exact .inl h
 ·exact .inr ⟨g,cap,cur,l,m,by rw[i.block g (Array.getElem?_eq_some_iff.1 f).1];exact f,r⟩
def KG (w:World) (base:Nat) (T:Tb) (L:List Nat) (v:Value):Prop:=w.ownsRow base 117 10 v L.length (iK T L)
theorem Uy (X b M n c:Nat) (low:Int) (T:Tb) (D:To) (w:World) (H:uK w X b M n D c) (t:Tab w b low T) :
  Calls prog 293 #[.pointer (some (X,0))] w fun e w'=>(∃v,e=.returned v/\KG w' w T (dH T D) v)/\Below w w w':=by
 obtain⟨U,W,C,E,F⟩:=lu Tryz.tu;have G:=jH H;have Y:=jH t;clear H t;go_enter func293,ntmps293;go_wp2_with fail;go_loopw [3,6] (fun v t wr=>∃j:Nat,j<=32/\t=.int .i64 j/\KG wr w T (nU T D j) v/\Below w w wr) (fun _ t _=>32 - (intOf t).toNat)
 case atStart=>exact⟨0,by omega,rfl,ql _ _ _ _,aH _ _⟩
 case round =>
  obtain⟨j,hj,rfl,h,o⟩:=hrel;have I:=jH h;have p:=jH o;have Z:=Ux T D j;clear h o;by_cases s:j < 32
  ·go_wp2_with fail;refine jM (Gv X b low T j wr (tk p G.c0) (Y.below p) s) fun l i=>?_;have J:=jH (t2 p i);have Q:=jH (tJ I i);clear i I p;unfold cellV;go_wp2_with fail;have K:Hid (qM (l.alloc (.cells #[j,(T j).ve,(T j).pr,(T j).ia,(T j).ip,(T j).fa,(T j).fp,(T j).po,(T j).st,(T j).un] 117)) l T j):=qN _ _ _;have x:Hid (Below w w (l.alloc (.cells #[j,(T j).ve,(T j).pr,(T j).ia,(T j).ip,(T j).fa,(T j).fp,(T j).po,(T j).st,(T j).un] 117))):=J.alloc J.size _;have L:Hid ((l.alloc (.cells #[j,(T j).ve,(T j).pr,(T j).ia,(T j).ip,(T j).fa,(T j).fp,(T j).po,(T j).st,(T j).un] 117)).ownsRow w 117 10 u3 (nU T D j).length (iK T (nU T D j))):=Q.alloc _;generalize l.alloc (.cells #[j,(T j).ve,(T j).pr,(T j).ia,(T j).ip,(T j).fa,(T j).fp,(T j).po,(T j).st,(T j).un] 117)=w2 at *;generalize l.heap.size=V at *;clear J Q;have t1:=(G.below x).c1;have N:=(G.below x.drew).m.look s;have a1:=K.c1;obtain⟨od,k⟩:∃od,D j=od:=⟨_,rfl⟩;rw[k]at N;have y:=jH k;clear k;by_cases a:(T j).ve=od
   ·have O:((T j).ve==od)=true:=by simp[a]
    have P:Hid (nU T D (j+1)=nU T D j):=XY (by rw[a,y.out]);clear a;go_region;go_wp2_with fail;go_roundw
    case rel=>exact⟨j+1,by omega,by go_num,by rw[P.out];exact tJ L bD,x.drew⟩
    case measure=>simp[intOf];omega
   ·have O:=dG.2 a;have P:Hid (nU T D (j+1)=nU T D j++[j]):=Uw (by rw[y.out];exact a);clear a;have f:=jH (K.below bD);have B:=jH x.drew;have R:=jH (tJ L bD);clear K x L;go_region;generalize w2.drew=w3 at *;have v0:=f.c0;have v1:=f.c1;have v2:=f.c2;have v3:=f.c3;have v4:=f.c4;have v5:=f.c5;have v6:=f.c6;have v7:=f.c7;have v8:=f.c8;have v9:=f.c9;have S:Hid (∀q u,(Bd T j)[q]? = some u->(w3.alloc (.cells #[j,(T j).ve,(T j).pr,(T j).ia,(T j).ip,(T j).fa,(T j).fp,(T j).po,(T j).st,(T j).un] 117)).cell? (Addr.add (w3.heap.size,0) q)=some u):=fun q u hu=>by
     rw[qo,fE,nw];simpa [Bd] using hu
    go_wp2_with (at_builtin;refine vw _ rfl _ _ 84 rfl w 117 U _ 10 80 Tryz.underlying84 W C E F rfl dC u3 (nU T D j).length (iK T (nU T D j)) rfl (R.alloc _) ⟨w3.heap.size,0,none⟩ 1 1 (Bd T j) rfl rfl S (xU T j) (by unfold maxLen;omega) om (by have:=B.size;simp;omega) ?_)
    intro vv w5 z A _;have O5:=jH z;have B5:=jH ((B.alloc B.size _).grown A (by have:=B.size;simp;omega) (fun q O=>(R.lt _ O).1));clear z A S v0 v1 v2 v3 v4 v5 v6 v7 v8 v9;go_wp2_with fail;go_roundw
    case rel =>
     refine⟨j+1,by omega,by go_num,?_,B5⟩;have:=O5.out;unfold KG;rw[P.out,jw,Dl,iK,iK,JH];exact this
    case measure=>simp[intOf];omega
  ·obtain rfl:j=32:=by omega
   go_wp2_with fail;go_ret;exact⟨⟨_,rfl,I⟩,p⟩
theorem XZ (b:Nat) (w:World) :
  Calls prog 219 #[.pointer (some (b,0))] w fun e w'=>(∃X M,e=.returned (.pointer (some ⟨X,0,none⟩))/\w.heap.size<=X/\w.heap.size<=M/\uK w' X b M 0 (fun _=>0) 0)/\Below w w w':=by
 have h:=@run_makeMap prog;go_enter func219,ntmps219;go_wp2_with fail;go_ret;have f:(w.alloc (.map #[] 0)).heap.size=w.heap.size+1:=by simp
 have a:=nw (w.alloc (.map #[] 0)) #[.pointer (some (b,0)),.map (some w),.int .i64 0] 229;rw[f]at a;refine⟨⟨w.heap.size+1,w.heap.size,rfl,by omega,by omega,⟨(a 0).trans rfl,(a 1).trans rfl,(a 2).trans rfl,?_,(XW w).below (aB _ _),by omega,by omega⟩⟩,t2 (aB _ _) (aB _ _)⟩;rw[<- f];exact jk _ _ _ _ _ (dh _ _)
abbrev Ya (V:Nat):Value:=.func (.func 307) #[] #[.pointer (some (V,0))]
theorem Uz (V:Nat) (T:Tb) (r s:Nat) (w:World) (f:w.cell? (V,0)=s) :
  Calls prog 307 #[.agg #[r,(T r).ve,(T r).pr,(T r).ia,(T r).ip,(T r).fa,(T r).fp,(T r).po,(T r).st,(T r).un],.pointer (some (V,0))] w fun e w'=>e=.returned (.bool (r==s))/\Below w w w':=by
 have a:=eF f;simp only at a;go_enter func307,ntmps307;go_wp2_with fail;go_ret;refine⟨?_,aB _ _⟩;have:((r:Int)==(s:Int))=(r==s):=by
  by_cases h:r=s
  ·subst h;simp
  ·rw[dG.2 h,dG.2 om]
 rw[<- this];rfl
theorem OZ (V Z:Nat) (T:Tb) (L:List Nat) (s:Nat) (w:World) (x:w.cell? (V,0)=s) (R:dF w Z T L) (E:L.length<=8) :
  Calls prog 295 #[.slice (some (Z,0)) L.length 8,Ya V] w fun e w'=>(∃k:Int,e=.returned k/\decide (k ≥ 0)=decide (s ∈ L))/\Below w w w':=by
 have B:Hid (w.cell? (V,0)=s):=x;have C:Hid (dF w Z T L):=R;clear x R;go_enter func295,ntmps295;go_wp2_with fail;go_loopw [8] (fun t wr=>∃j:Nat,j<=L.length/\t=.int .i64 j/\¬s ∈ L.take j/\Below w w wr) (fun t _=>L.length - (intOf t).toNat)
 case atStart=>exact⟨0,by omega,rfl,by simp,aH _ _⟩
 case round =>
  obtain⟨j,F,rfl,f,i⟩:=hrel;have p:Hid (¬s ∈ L.take j):=f;have o:Hid (Below w w wr):=i;clear f i;by_cases q:j < L.length
  ·have G:(0:Int)<=(j:Int):=by omega
   have H:(j:Int) < (L.length:Int):=by omega
   obtain⟨r,hr⟩:∃r,L[j]? = some r:=⟨_,fD q⟩;have y:Hid (L[j]? = some r):=hr;have a:=C.below o;have c0:=a.at' (k:=0) hr om;have c1:=a.at' (k:=1) hr om;have c2:=a.at' (k:=2) hr om;have c3:=a.at' (k:=3) hr om;have c4:=a.at' (k:=4) hr om;have c5:=a.at' (k:=5) hr om;have c6:=a.at' (k:=6) hr om;have c7:=a.at' (k:=7) hr om;have z:=a.at' (k:=8) hr om;have A:=a.at' (k:=9) hr om;simp only[Ce.get,oV]at c0 c1 c2 c3 c4 c5 c6 c7 z A;clear a hr;go_wp2_with fail;refine(Uz V T r s _ (tk o B)).mono ?_;rintro e w2 ⟨rfl,l⟩;have m:Hid (Below w w w2):=t2 o l;clear l c0 c1 c2 c3 c4 c5 c6 c7 z A;rcases hq:(r==s) with _ | _
   ·have u:Hid (¬s ∈ L.take (j+1)):=by
     show ¬_;rw[xE,y.out,lU];rintro(h | h)
     ·exact p h
     ·simp at h;subst h;simp at hq
    clear hq;go_wp2_with fail;go_roundw
    case rel=>exact⟨j+1,by omega,by go_num,u,m⟩
    case measure=>simp[intOf];omega
   ·have D:Hid (s ∈ L):=by
     have e:=eq_of_beq hq;subst e;exact kW y
    clear hq;go_wp2_with fail;go_ret;exact⟨⟨_,rfl,by rw[gG D.out,decide_eq_true_iff];omega⟩,m⟩
  ·obtain rfl:j=L.length:=by omega
   rw[xH]at p;go_wp2_with fail;go_ret;exact⟨⟨_,rfl,by rw[gQ p.out];rfl⟩,o⟩
theorem Fv (V Z:Nat) (T:Tb) (L:List Nat) (s:Nat) (w:World) (h:w.cell? (V,0)=s) (R:dF w Z T L) (j:L.length<=8) :
  Calls prog 264 #[.slice (some (Z,0)) L.length 8,Ya V] w fun e w'=>e=.returned (.bool (decide (s ∈ L)))/\Below w w w':=by
 have l:Hid (w.cell? (V,0)=s):=h;have m:Hid (dF w Z T L):=R;clear h R;go_enter func264,ntmps264;go_wp2_with fail;refine(OZ V Z T L s _ l m j).mono ?_;rintro e w2 ⟨⟨k,rfl,i⟩,a⟩;have f:Hid (Below w w w2):=a;have o:Hid (decide (k ≥ 0)=decide (s ∈ L)):=i;clear a i;go_wp2_with fail;all_goals go_ret
 all_goals refine⟨?_,f⟩
 all_goals rw[<- o.out]
 all_goals rfl
section
variable {w wr:World} {X b M n c j l cap Z:Nat} {D:To} {p:Option Addr} {low:Int} {T:Tb}
def Yb (w:World) (X:Nat):Nat:=match w.cell? (X,2) with | some (.int _ x)=>x.toNat | _=>0
def lenV:Value->Nat
 | .slice _ n _=>n
 | _=>0
def qO (X c:Nat) (v:Value) (w:World):Nat:=if 8<=lenV v then 0 else 33 - (Yb w X+32 - c) % 32
theorem Dp (H:uK w X b M n D ((c+j) % 32)) (a:c < 32) (e:j < 32) (f:l < 8):qO X c (.slice p l cap) w=33 - j:=by
 unfold qO Yb lenV;rw[H.c2];simp only;rw[ak om];have:(Int.toNat (((c+j) % 32:Nat):Int))=(c+j) % 32:=fJ _;rw[this];omega
theorem Dq (a:8<=l):qO X c (.slice p l cap) w=0:=by
 unfold qO lenV;simp only;rw[aj a]
theorem nD {B:List Nat} (h:∀i,i < j->(wk B c i).length < 8) (e:(wk B c j).length < 8):j < 32:=by
 rcases Nat.lt_trichotomy j 32 with a | a | a
 ·exact a
 ·subst a;have:=AZ B c;omega
 ·have:=h 32 a;have:=AZ B c;omega
structure Fi (w wr:World) (X b M n Z:Nat) (low:Int) (T:Tb) (D:To) (B:List Nat) (c j:Nat):Prop where
 r:dF wr Z T (wk B c j)
 s:∀i,i < j->(wk B c i).length < 8
 h:uK wr X b M n D ((c+j) % 32)
 k:Tab wr b low T
 g:bW X Z w wr
theorem Fi.below {a:World} {B:List Nat} (f:Fi w wr X b M n Z low T D B c j) (e:Below wr wr a):Fi w a X b M n Z low T D B c j :=
 ⟨f.r.below e,f.s,f.h.below e,f.k.below e,f.g.then e⟩
structure Fi1 (w wr:World) (X b M n Z V:Nat) (low:Int) (T:Tb) (D:To) (L:List Nat) (cu:Nat):Prop where
 r:dF wr Z T L
 h:uK wr X b M n D ((cu+1) % 32)
 k:Tab wr b low T
 g:bW X Z w wr
 a:qM wr V T cu
theorem Fi1.below {e:World} {V:Nat} {L:List Nat} {cu:Nat} (f:Fi1 w wr X b M n Z V low T D L cu) (i:Below wr wr e):Fi1 w e X b M n Z V low T D L cu :=
 ⟨f.r.below i,f.h.below i,f.k.below i,f.g.then i,f.a.below i⟩
theorem uK.agh (h:uK w X b M n D c) (t:Tab w b low T):b≠X:=fun e=>by
 have f:=h.c0;have a:=t.low;rw[e]at a;rw[f]at a
 cases a
theorem aeX {L:List Nat} {cu c':Nat} (r:dF wr Z T L) (h:uK wr X b M n D c') (k:Tab wr b low T) (g:bW X Z w wr) (a:X≠Z) :
  Fi1 w ((wr.setCell (X,2) (.int .i64 (((cu+1) % 32:Nat):Int))).alloc (.cells #[cu,(T cu).ve,(T cu).pr,(T cu).ia,(T cu).ip,(T cu).fa,(T cu).fp,(T cu).po,(T cu).st,(T cu).un] 117)) X b M n Z wr low T D L cu:=by
 have A:=qN (wr.setCell (X,2) (.int .i64 (((cu+1) % 32:Nat):Int))) T cu;rw[show(wr.setCell ⟨X,2,none⟩ (.int .i64 (((cu+1) % 32:Nat):Int))).heap.size=wr.heap.size from by simp[World.setCell]]at A;exact⟨(r.dO (aC.set X 2 wr _) (fun e=>a e.symm)).below (aB _ _),(h.cur (c':=(cu+1) % 32) om).below (aB _ _),(k.dO (aC.set X 2 wr _) (h.agh k)).below (aB _ _),(g.on (aC.set X 2 wr _) (.inl rfl)).then (aB _ _),A⟩
theorem Gw {w':World} {l':Nat} {q:Option Addr} {a:Nat} (H:uK wr X b M n D ((c+j) % 32)) (i:uK w' X b M n D ((c+(j+1)) % 32)) (f:c < 32) (k:j < 32) (m:l < 8) {h:Nat} (e:h=l') (o:h < 8->j+1 < 32):qO X c (.slice q l' a) w' < qO X c (.slice p l cap) wr:=by
 rw[Dp H f k m];by_cases s:l' < 8
 ·rw[Dp i f (o om) s];omega
 ·rw[Dq om];omega
theorem Yc (X b M n c Z:Nat) (low:Int) (T:Tb) (D:To) (B:List Nat) (w:World) (H:uK w X b M n D c) (t:Tab w b low T) (R:dF w Z T B) (hX:X≠Z) (hM:M≠Z) (K:b≠Z) :
  Calls prog 294 #[.pointer (some (X,0)),.slice (some (Z,0)) B.length 8] w fun e w'=>∃j,Full B c j/\e=.returned (.slice (some (Z,0)) (wk B c j).length 8)/\dF w' Z T (wk B c j)/\uK w' X b M n D ((c+j) % 32)/\bW X Z w w':=by
 have HH:=jH H;have HT:=jH t;have HR:=jH R;have HN:Hid (X≠Z/\M≠Z/\b≠Z):=⟨hX,hM,K⟩;have x:=H.lt;have F0:Hid (Fi w w X b M n Z low T D B c 0):=⟨R,fun i hi=>by omega,by rw[oV,Nat.mod_eq_of_lt x];exact H,t,bW.of bR⟩;clear H t R hX hM K HH HT HR;go_enter func294,ntmps294;go_wp2_with fail;go_loopw [1] (fun v wr=>∃j:Nat,v=.slice (some (Z,0)) (wk B c j).length 8/\Fi w wr X b M n Z low T D B c j) (fun v wr=>qO X c v wr)
 case atStart=>exact⟨0,rfl,F0⟩
 case round =>
  obtain⟨j,rfl,hf⟩:=hrel;have o:=jH hf;clear hf F0;by_cases y:(wk B c j).length < 8
  ·have A:=nD o.s y;have Zj:((wk B c j).length:Int) < 8:=by omega
   have Zk:Hid (qO X c (.slice (some (Z,0)) (wk B c j).length 8) wr=33 - j):=Dp o.h x A y;obtain⟨f,E⟩:∃f,f=(c+j) % 32:=⟨_,rfl⟩;have z:=jH E;have Zg:f < 32:=by omega
   have c2:=o.h.c2;have f2:=o.h.f2;rw[<- E]at c2;have Zh:=eF c2;simp only at Zh;have i0:=jN f
   have i1:(f:Int) < 32:=by omega
   clear E;go_wp2_with fail;refine jM (Gv X b low T f wr o.h.c0 o.k Zg) fun W L=>?_;have F:=jH (o.below L);have d2:=F.h.c2;have e2:=F.h.f2;rw[<- z.out]at d2;have N:=eF d2;simp only at N;clear L c2 f2;unfold cellV;go_wp2_with fail;rw[show((f:Int)+1) % 32=(((f+1) % 32:Nat):Int) from by omega];have Y:Hid (Fi1 w ((W.setCell (X,2) (.int .i64 (((f+1) % 32:Nat):Int))).alloc (.cells #[f,(T f).ve,(T f).pr,(T f).ia,(T f).ip,(T f).fa,(T f).fp,(T f).po,(T f).st,(T f).un] 117)) X b M n Z W low T D (wk B c j) f):=aeX F.r F.h F.k F.g HN.1;clear d2 e2 F;generalize (W.setCell (X,2) (.int .i64 (((f+1) % 32:Nat):Int))).alloc (.cells #[f,(T f).ve,(T f).pr,(T f).ia,(T f).ip,(T f).fa,(T f).fp,(T f).po,(T f).st,(T f).un] 117)=W0 at *;generalize W.heap.size=V at *;refine jM (Fv V Z T (wk B c j) f W0 Y.a.c0 Y.r om) fun w2 O=>?_;have m:=jH (Y.below O);clear O Y;by_cases J:f ∈ wk B c j
   ·have G:=jH (XG (by rw[<- z.out];exact J));have P:=gG J;rw[P];clear P J;have I:Hid (Fi w w2 X b M n Z low T D B c (j+1)):=by
     have hs:=o.s;refine⟨by rw[G.out];exact m.r,fun i hi=>?_,?_,m.k,m.g⟩
     ·by_cases e:i=j
      ·rw[e];exact y
      ·exact hs i om
     ·have:=m.h;rw[show(c+(j+1)) % 32=(f+1) % 32 from by rw[z.out];omega];exact this
    clear m;go_wp2_with fail;go_roundw
    case rel=>exact⟨j+1,by rw[G.out],I⟩
    case measure=>exact Gw o.h I.h x A y (by rw[G.out]) (nD I.s)
   ·have G:Hid (wk B c (j+1)=wk B c j++[f]):=by show _=_;rw[OH (by rw[<- z.out];exact J),<- z.out]
    have P:=gQ J;rw[P];clear P J;have v0:=m.a.c0;have v1:=m.a.c1;have v2:=m.a.c2;have v3:=m.a.c3;have v4:=m.a.c4;have v5:=m.a.c5;have v6:=m.a.c6;have v7:=m.a.c7;have v8:=m.a.c8;have v9:=m.a.c9;have Q:Hid (Below w2 w2 (w2.alloc (.cells #[f,(T f).ve,(T f).pr,(T f).ia,(T f).ip,(T f).fa,(T f).fp,(T f).po,(T f).st,(T f).un] 117))):=aB _ _;obtain⟨w4,S,U,C⟩:=KF (m.r.below Q) (w2.heap.size,0) f 1 84 (fun q u hu=>by rw[qo,fE,nw];simpa [Bd] using hu) om;have I:Hid (Fi w w4 X b M n Z low T D B c (j+1)):=by
     have hs:=o.s;have hn:=HN.out;refine⟨by rw[G.out];exact U,fun i hi=>?_,?_,(m.k.below Q).dO C hn.2.2,(m.g.then Q).on C (.inr (.inl rfl))⟩
     ·by_cases e:i=j
      ·rw[e];exact y
      ·exact hs i om
     ·have:=(m.h.below Q).dO C hn.1 hn.2.1;rw[show(c+(j+1)) % 32=(f+1) % 32 from by rw[z.out];omega];exact this
    clear m Q U C;go_wp2_with (at_builtin;refine aN rfl _ _ 84 rfl _ _ _ _ rfl rfl S ?_)
    go_roundw
    case rel=>exact⟨j+1,by rw[G.out,jw];rfl,I⟩
    case measure=>exact Gw o.h I.h x A y (by rw[G.out,jw];rfl) (nD I.s)
  ·have Zi:¬((wk B c j).length:Int) < 8:=by omega
   have HU:Hid (Full B c j):=⟨o.s,by omega⟩;go_wp2_with fail;go_ret;exact⟨j,HU,rfl,o.r,o.h,o.g⟩
end
section
variable {w:World} {M n:Nat} {D:To} {T:Tb} {L:List Nat}
theorem jG.put (h:jG w M n D) {s:Nat} {v:Int} (q:s < 32) (u:0<=v) (j:v<=1000000000) (y:n<=1000000000) :
  ∃w',(Instr.mapUpdate 227 (.map (some M)) s v).run prog w=.ok () w'/\jG w' M (n+1) (fun k=>if k=s then v else D k)/\aC M w w':=by
 obtain⟨d,i,l⟩:=h;have f:=i.isMap;obtain⟨w',a,m,o⟩:=i.update agd Tryz.underlying227 (by unfold maxLen;omega) (keyOf_int_mk Tryz.underlying3 (wfI (x:=s) om om)) (plainElem_int Tryz.underlying3 (wfI (x:=v) om j));refine⟨w',a,⟨_,m,fun k p=>?_⟩,FW o⟩;by_cases e:k=s
 ·subst e;rw[atKey_put_same f (by simp[WideAt.IsKeyLit])];simp only[mV]
 ·rw[atKey_put_other (by intro h;injection h with _ h2;omega)];simp only[ak e];exact l k p
theorem rH {j s:Nat} (h:L[j]? = some s):jD T D (L.take (j+1))=fun k=>if k=s then (T s).ve else jD T D (L.take j) k:=by
 funext k
 unfold jD;rw[xE,h];by_cases e:k=s
 ·subst e;simp
 ·by_cases a:k ∈ L.take j <;> simp[a,e]
theorem rJ (T:Tb) (D:To) (L:List Nat):jD T D (L.take 0)=D:=by
 funext k;simp[jD]
theorem bW.fresh {m g z:Nat} {v v':World} (h:bW m g w v) (k:bW m z v v') (j:w.heap.size<=z):bW m g w v' :=
 ⟨k.os.trans h.os,k.tape.trans h.tape,k.output.trans h.output,dL h.size k.size,fun i a e f=>(k.block i (ji a h.size) e om).trans (h.block i a e f)⟩
theorem uK.put {w':World} {X b:Nat} {c s:Nat} {v:Int} (h:uK w X b M n D c) (e:jG w' M (n+1) (fun k=>if k=s then v else D k)) (a:aC M w w'):uK w' X b M (n+1) (fun k=>if k=s then v else D k) c :=
 ⟨a.keeps h.ne h.c0,a.keeps h.ne h.c1,a.keeps h.ne h.c2,(aV (a.block X (eF h.c0) h.ne)).trans h.f2,e,h.ne,h.lt⟩
theorem Dt (X b M n c Z k:Nat) (low:Int) (T:Tb) (D:To) (B:List Nat) (w:World) (i:k=B.length) (H:uK w X b M n D c) (t:Tab w b low T) (R:dF w Z T B) (l:X≠Z) (m:M≠Z) (a:b≠Z) (f:B=(dH T D).take 8:=by rfl) :
  Calls prog 294 #[.pointer (some (X,0)),.slice (some (Z,0)) k 8] w fun e w'=>∃L c',Nx T D c L c'/\e=.returned (.slice (some (Z,0)) 8 8)/\dF w' Z T L/\uK w' X b M n D c'/\bW X Z w w':=by
 subst i;refine(Yc X b M n c Z low T D B w H t R l m a).mono ?_;rintro e w' ⟨j,h,rfl,o,p,q⟩;have s:=h.len (by rw[f];exact take8 _);subst f;exact⟨_,_,⟨j,h,rfl,rfl⟩,by rw[s],o,p,q⟩
structure Nj (w wr:World) (X b M n Z:Nat) (T:Tb) (D:To) (L:List Nat) (c' j:Nat):Prop where
 h:uK wr X b M (n+j) (jD T D (L.take j)) c'
 r:dF wr Z T L
 g:bW X M w wr
theorem Nj.below {wr a:World} {X b Z:Nat} {c' j:Nat} (f:Nj w wr X b M n Z T D L c' j) (e:Below wr wr a):Nj w a X b M n Z T D L c' j :=
 ⟨f.h.below e,f.r.below e,f.g.then e⟩
theorem agi (w:World) (T:Tb):∃w',(Instr.makeSlice 84 (.int .i64 0) (.int .i64 8)).run prog w=.ok (.slice (some (w.heap.size,0)) 0 8) w'/\dF w' w T []/\Below w w w':=by
 obtain⟨i,k,e,a,f⟩:=lu Tryz.tu;have h:=run_makeSlice (P := prog) w 84 117 i _ Tryz.underlying84 k e .i64 .i64 0 8 om om (by rw[a];decide) (by rw[f];decide) om;refine⟨_,h,⟨_,dh _ _,?_,fun j s l=>by simp at l⟩,aB _ _⟩;rw[size_madeCells,a];rfl
theorem UA {k q:Nat} {u:Value} (h:(iK T (L.take k))[q]? = some u):(iK T L)[q]? = some u:=by
 have e:iK T L=iK T (L.take k)++iK T (L.drop k):=by rw[<- Dl,abX]
 rw[e,qW (List.getElem?_eq_some_iff.1 h).1];exact h
theorem KG.rows {base:Nat} {v:Value} (h:KG w base T L v):(L=[]/\v=.slice none 0 0)\/∃g cap,v=.slice (some ⟨g,0,none⟩) L.length cap/\L.length<=cap/\g < w.heap.size/\∀j u,(iK T (L.take 8))[j]? = some u->w.cell? (Addr.add ⟨g,0,none⟩ j)=some u:=by
 obtain⟨i,e⟩:=h;rcases e with⟨rfl,h0⟩ | ⟨g,cap,cur,rfl,_,hh,hc,_,_,ht⟩
 ·exact .inl ⟨List.length_eq_zero_iff.1 h0,rfl⟩
 ·refine .inr ⟨g,cap,rfl,hc,(Array.getElem?_eq_some_iff.1 hh).1,fun j u f=>?_⟩;have a:=UA f;have k:=(List.getElem?_eq_some_iff.1 a).1;rw[qo,fE,aP w g _ _ _ _ hh];rw[<- ht,kG]at a;split at a
  ·rw[sQ]at a;exact a
  ·cases a
theorem UC (X b M n c m:Nat) (low:Int) (T:Tb) (D:To) (w:World) (H:uK w X b M n D c) (t:Tab w b low T) (hv:gI T m) (hm:m<=1000000000) (hn:n<=100000000) :
  Calls prog 263 #[.pointer (some (X,0))] w fun e w'=>∃Z L c',Nx T D c L c'/\e=.returned (.slice (some ⟨Z,0,none⟩) 8 8)/\w.heap.size<=Z/\dF w' Z T L/\uK w' X b M (n+8) (jD T D L) c'/\bW X M w w':=by
 have I:=jH H;have HT:=jH t;have HV:=jH hv;clear H t hv;go_enter func263,ntmps263;go_wp2_with fail;refine(Uy X b M n c low T D w I HT).mono ?_;rintro e K ⟨⟨v,rfl,hv⟩,O⟩;have B1:=jH O;have hl:=Uh T D;have HL:Hid (((dH T D).take 8).length=min 8 (dH T D).length):=by show _=_;rw[qE]
 obtain⟨w2,U,Zg,W⟩:=agi K T;have R2:=jH Zg;have B2:=jH (t2 O W);have p:=jH O.size;have Zm:=hv.rows;clear hv;rcases Zm with⟨h0,rfl⟩ | ⟨g,cap,rfl,hcap,hg,hrow⟩
 ·have HE:Hid ((dH T D).take 8=[]):=by show _=_;rw[h0];rfl
  have Y:Hid (dF w2 K T ((dH T D).take 8)):=by rw[HE.out];exact R2
  have S:Hid (0=((dH T D).take 8).length):=by rw[HE.out];rfl
  obtain⟨w3,Zh⟩:∃w3,w3=w2:=⟨_,rfl⟩;have J:Hid (Below w w w3):=by rw[Zh];exact B2
  rw[<- Zh]at U Y;clear Zh h0 R2 B2 B1 O W Zg;go_wp2_with fail;refine(Dt X b M n c K _ low T D ((dH T D).take 8) w3 S (I.below J) (HT.below J) Y (by have h:=eF I.c0;have:=p.out;simp only at h;omega) (by have:=I.m.lt;have:=p.out;omega) (by have:=HT.lt;have:=p.out;omega)).mono ?_;rintro e w4 ⟨L,c',hx,rfl,y,z,A⟩;have G:=jH hx;have P:Hid (Nj w w4 X b M n K T D L c' 0):=⟨by rw[rJ];exact z,y,(bW.of J.out).fresh A p⟩;clear hx y z A Y J HL S U;obtain⟨Z,hZ⟩:∃Z,Z=K.heap.size:=⟨_,rfl⟩;rw[<- hZ]at p P ⊢;clear hZ;go_wp2_with fail;go_loopw [22] (fun t wr=>∃j:Nat,j<=8/\t=.int .i64 j/\Nj w wr X b M n Z T D L c' j) (fun t _=>8 - (intOf t).toNat)
  case atStart=>exact⟨0,by omega,rfl,P⟩
  case round =>
   obtain⟨j,hj,rfl,B⟩:=hrel;have a:=jH B;clear B P;by_cases Zi:j < 8
   ·have i0:=jN j
    have i1:(j:Int) < 8:=by omega
    have C:=G.len;obtain⟨s,f⟩:∃s,L[j]? = some s:=⟨_,fD om⟩;have HS:=jH f;have l:=G.lt s (kW f);have a0:=a.r.at' (k:=0) f om;have a1:=a.r.at' (k:=1) f om;have a2:=a.r.at' (k:=2) f om;have a3:=a.r.at' (k:=3) f om;have a4:=a.r.at' (k:=4) f om;have a5:=a.r.at' (k:=5) f om;have a6:=a.r.at' (k:=6) f om;have a7:=a.r.at' (k:=7) f om;have a8:=a.r.at' (k:=8) f om;have a9:=a.r.at' (k:=9) f om;simp only[Ce.get,oV]at a0 a1 a2 a3 a4 a5 a6 a7 a8 a9;clear f C;go_wp2_with fail;clear a0 a1 a2 a3 a4 a5 a6 a7 a8 a9;have A1:Hid (qM (wr.alloc (.cells #[s,(T s).ve,(T s).pr,(T s).ia,(T s).ip,(T s).fa,(T s).fp,(T s).po,(T s).st,(T s).un] 117)) wr T s):=qN _ _ _;have Q:Hid (Nj w (wr.alloc (.cells #[s,(T s).ve,(T s).pr,(T s).ia,(T s).ip,(T s).fa,(T s).fp,(T s).po,(T s).st,(T s).un] 117)) X b M n Z T D L c' j):=a.below (aB _ _);generalize wr.alloc (.cells #[s,(T s).ve,(T s).pr,(T s).ia,(T s).ip,(T s).fa,(T s).fp,(T s).po,(T s).st,(T s).un] 117)=W0 at *;generalize wr.heap.size=V at *;have E:=HV.out s l;obtain⟨w5,Zj,F,i⟩:=(Q.h.below bD).m.put (s:=s) (v:=(T s).ve) l E.1 om om;have N5:Hid (Nj w w5 X b M n Z T D L c' (j+1)):=by
     have o:=Q.below bD;have R:Z≠M:=by have:=I.m.lt;have:=p.out;omega
     refine⟨?_,o.r.dO i R,o.g.on i (.inr (.inl rfl))⟩;rw[rH HS.out];exact o.h.put F i
    have t1:=Q.h.c1;have v0:=A1.c0;have v1:=A1.c1;clear F i E;go_region;go_wp2_with fail;go_roundw
    case rel=>exact⟨j+1,by omega,by go_num,N5⟩
    case measure=>simp[intOf];omega
   ·obtain rfl:j=8:=by omega
    have C:=G.len;go_wp2_with fail;go_ret;refine⟨Z,L,c',G,rfl,p,a.r,?_,a.g⟩;have:=a.h;rw[vk om]at this;exact this
 ·obtain⟨w3,x,Zk,Zl⟩:=xX R2 ((dH T D).take 8) (g,0) cap 84 (fun q u hu=>tk W (hrow q u hu)) (by rw[HL.out];show 0+_<=_;omega);have Y:=jH Zk;have J:=jH (aC.below B2 Zl p);clear Zk Zl hrow R2 B2 B1 O W Zg;obtain⟨N,hN⟩:∃N,N=(dH T D).length:=⟨_,rfl⟩;have g4:N<=cap:=by omega
  by_cases h8:¬8 < N
  ·have S:Hid (N=((dH T D).take 8).length):=by show _=_;rw[HL.out];omega
   rw[<- S.out]at x;rw[<- hN]at *;simp only[xG,fE]at x;have g1:¬(8:Int) < (N:Int):=by omega
   have g2:(N:Int)<=(cap:Int):=by omega
   have g3:=jN N
   clear hN;go_wp2_with (at_builtin;refine aN rfl _ _ 84 rfl _ _ _ _ rfl rfl x ?_)
   refine(Dt X b M n c K _ low T D ((dH T D).take 8) w3 S (I.below J) (HT.below J) Y (by have h:=eF I.c0;have:=p.out;simp only at h;omega) (by have:=I.m.lt;have:=p.out;omega) (by have:=HT.lt;have:=p.out;omega)).mono ?_;rintro e w4 ⟨L,c',hx,rfl,y,z,A⟩;have G:=jH hx;have P:Hid (Nj w w4 X b M n K T D L c' 0):=⟨by rw[rJ];exact z,y,(bW.of J.out).fresh A p⟩;clear hx y z A Y J HL S U;obtain⟨Z,hZ⟩:∃Z,Z=K.heap.size:=⟨_,rfl⟩;rw[<- hZ]at p P ⊢;clear hZ;go_wp2_with fail;go_loopw [22] (fun t wr=>∃j:Nat,j<=8/\t=.int .i64 j/\Nj w wr X b M n Z T D L c' j) (fun t _=>8 - (intOf t).toNat)
   case atStart=>exact⟨0,by omega,rfl,P⟩
   case round =>
    obtain⟨j,hj,rfl,B⟩:=hrel;have a:=jH B;clear B P;by_cases Zi:j < 8
    ·have i0:=jN j
     have i1:(j:Int) < 8:=by omega
     have C:=G.len;obtain⟨s,f⟩:∃s,L[j]? = some s:=⟨_,fD om⟩;have HS:=jH f;have l:=G.lt s (kW f);have a0:=a.r.at' (k:=0) f om;have a1:=a.r.at' (k:=1) f om;have a2:=a.r.at' (k:=2) f om;have a3:=a.r.at' (k:=3) f om;have a4:=a.r.at' (k:=4) f om;have a5:=a.r.at' (k:=5) f om;have a6:=a.r.at' (k:=6) f om;have a7:=a.r.at' (k:=7) f om;have a8:=a.r.at' (k:=8) f om;have a9:=a.r.at' (k:=9) f om;simp only[Ce.get,oV]at a0 a1 a2 a3 a4 a5 a6 a7 a8 a9;clear f C;go_wp2_with fail;clear a0 a1 a2 a3 a4 a5 a6 a7 a8 a9;have A1:Hid (qM (wr.alloc (.cells #[s,(T s).ve,(T s).pr,(T s).ia,(T s).ip,(T s).fa,(T s).fp,(T s).po,(T s).st,(T s).un] 117)) wr T s):=qN _ _ _;have Q:Hid (Nj w (wr.alloc (.cells #[s,(T s).ve,(T s).pr,(T s).ia,(T s).ip,(T s).fa,(T s).fp,(T s).po,(T s).st,(T s).un] 117)) X b M n Z T D L c' j):=a.below (aB _ _);generalize wr.alloc (.cells #[s,(T s).ve,(T s).pr,(T s).ia,(T s).ip,(T s).fa,(T s).fp,(T s).po,(T s).st,(T s).un] 117)=W0 at *;generalize wr.heap.size=V at *;have E:=HV.out s l;obtain⟨w5,Zj,F,i⟩:=(Q.h.below bD).m.put (s:=s) (v:=(T s).ve) l E.1 om om;have N5:Hid (Nj w w5 X b M n Z T D L c' (j+1)):=by
      have o:=Q.below bD;have R:Z≠M:=by have:=I.m.lt;have:=p.out;omega
      refine⟨?_,o.r.dO i R,o.g.on i (.inr (.inl rfl))⟩;rw[rH HS.out];exact o.h.put F i
     have t1:=Q.h.c1;have v0:=A1.c0;have v1:=A1.c1;clear F i E;go_region;go_wp2_with fail;go_roundw
     case rel=>exact⟨j+1,by omega,by go_num,N5⟩
     case measure=>simp[intOf];omega
    ·obtain rfl:j=8:=by omega
     have C:=G.len;go_wp2_with fail;go_ret;refine⟨Z,L,c',G,rfl,p,a.r,?_,a.g⟩;have:=a.h;rw[vk om]at this;exact this
  ·have S:Hid (8=((dH T D).take 8).length):=by show _=_;rw[HL.out];omega
   rw[<- S.out]at x;rw[<- hN]at *;simp only[xG,fE]at x;have g1:(8:Int) < (N:Int):=by omega
   have g2:(8:Int)<=(cap:Int):=by omega
   clear hN;go_wp2_with (at_builtin;refine aN rfl _ _ 84 rfl _ _ _ _ rfl rfl x ?_)
   refine(Dt X b M n c K _ low T D ((dH T D).take 8) w3 S (I.below J) (HT.below J) Y (by have h:=eF I.c0;have:=p.out;simp only at h;omega) (by have:=I.m.lt;have:=p.out;omega) (by have:=HT.lt;have:=p.out;omega)).mono ?_;rintro e w4 ⟨L,c',hx,rfl,y,z,A⟩;have G:=jH hx;have P:Hid (Nj w w4 X b M n K T D L c' 0):=⟨by rw[rJ];exact z,y,(bW.of J.out).fresh A p⟩;clear hx y z A Y J HL S U;obtain⟨Z,hZ⟩:∃Z,Z=K.heap.size:=⟨_,rfl⟩;rw[<- hZ]at p P ⊢;clear hZ;go_wp2_with fail;go_loopw [22] (fun t wr=>∃j:Nat,j<=8/\t=.int .i64 j/\Nj w wr X b M n Z T D L c' j) (fun t _=>8 - (intOf t).toNat)
   case atStart=>exact⟨0,by omega,rfl,P⟩
   case round =>
    obtain⟨j,hj,rfl,B⟩:=hrel;have a:=jH B;clear B P;by_cases Zi:j < 8
    ·have i0:=jN j
     have i1:(j:Int) < 8:=by omega
     have C:=G.len;obtain⟨s,f⟩:∃s,L[j]? = some s:=⟨_,fD om⟩;have HS:=jH f;have l:=G.lt s (kW f);have a0:=a.r.at' (k:=0) f om;have a1:=a.r.at' (k:=1) f om;have a2:=a.r.at' (k:=2) f om;have a3:=a.r.at' (k:=3) f om;have a4:=a.r.at' (k:=4) f om;have a5:=a.r.at' (k:=5) f om;have a6:=a.r.at' (k:=6) f om;have a7:=a.r.at' (k:=7) f om;have a8:=a.r.at' (k:=8) f om;have a9:=a.r.at' (k:=9) f om;simp only[Ce.get,oV]at a0 a1 a2 a3 a4 a5 a6 a7 a8 a9;clear f C;go_wp2_with fail;clear a0 a1 a2 a3 a4 a5 a6 a7 a8 a9;have A1:Hid (qM (wr.alloc (.cells #[s,(T s).ve,(T s).pr,(T s).ia,(T s).ip,(T s).fa,(T s).fp,(T s).po,(T s).st,(T s).un] 117)) wr T s):=qN _ _ _;have Q:Hid (Nj w (wr.alloc (.cells #[s,(T s).ve,(T s).pr,(T s).ia,(T s).ip,(T s).fa,(T s).fp,(T s).po,(T s).st,(T s).un] 117)) X b M n Z T D L c' j):=a.below (aB _ _);generalize wr.alloc (.cells #[s,(T s).ve,(T s).pr,(T s).ia,(T s).ip,(T s).fa,(T s).fp,(T s).po,(T s).st,(T s).un] 117)=W0 at *;generalize wr.heap.size=V at *;have E:=HV.out s l;obtain⟨w5,Zj,F,i⟩:=(Q.h.below bD).m.put (s:=s) (v:=(T s).ve) l E.1 om om;have N5:Hid (Nj w w5 X b M n Z T D L c' (j+1)):=by
      have o:=Q.below bD;have R:Z≠M:=by have:=I.m.lt;have:=p.out;omega
      refine⟨?_,o.r.dO i R,o.g.on i (.inr (.inl rfl))⟩;rw[rH HS.out];exact o.h.put F i
     have t1:=Q.h.c1;have v0:=A1.c0;have v1:=A1.c1;clear F i E;go_region;go_wp2_with fail;go_roundw
     case rel=>exact⟨j+1,by omega,by go_num,N5⟩
     case measure=>simp[intOf];omega
    ·obtain rfl:j=8:=by omega
     have C:=G.len;go_wp2_with fail;go_ret;refine⟨Z,L,c',G,rfl,p,a.r,?_,a.g⟩;have:=a.h;rw[vk om]at this;exact this
end
end Go.Proofs.YtnogmjekhjldcaaGreatDoor
