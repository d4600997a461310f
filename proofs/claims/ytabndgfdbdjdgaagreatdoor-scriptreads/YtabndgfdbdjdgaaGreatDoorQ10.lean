/-
  What the claimed theorem reaches, part Q10.
-/
import Derived.Test.YtabndgfdbdjdgaaGreatDoorQ06
import Derived.Test.YtabndgfdbdjdgaaGreatDoorQ07
import Derived.Maps.OwnOps
import Derived.Maps.OwnSet
import Derived.Laws.CopyRow
import Derived.Test.YtabndgfdbdjdgaaGreatDoorQ00
namespace Go.Proofs.YtabndgfdbdjdgaaGreatDoor
open Go.RowKit Go.Maps
set_option maxRecDepth 100000
set_option maxHeartbeats 8000000
section
variable {w w':World} {Z b c M n X:Nat} {T:Tb} {L:List Nat} {D:To}
theorem patch_at (cs:Array Value) (p:Nat) (xs:List Value) (h:p+xs.length<=cs.size) (q:Nat):((cs.toList.take p++xs++cs.toList.drop (p+xs.length)).toArray)[q]? = if p<=q/\q < p+xs.length then xs[q - p]? else cs[q]? := by
 have ht:(cs.toList.take p).length=p:=by rw[List.length_take,Array.length_toList];omega
 rw[List.getElem?_toArray]
 by_cases h1:q < p
 ·rw[if_neg (by omega),List.append_assoc,List.getElem?_append_left (by omega),List.getElem?_take,if_pos h1,Array.getElem?_toList]
 ·by_cases h2:q < p+xs.length
  ·rw[if_pos (by omega),List.getElem?_append_left (by rw[List.length_append,ht];omega),List.getElem?_append_right (by omega),ht]
  ·rw[if_neg (by omega),List.getElem?_append_right (by rw[List.length_append,ht];omega),List.length_append,ht,List.getElem?_drop,Array.getElem?_toList]
   congr 1
   omega
theorem patch_size (cs:Array Value) (p:Nat) (xs:List Value) (h:p+xs.length<=cs.size):((cs.toList.take p++xs++cs.toList.drop (p+xs.length)).toArray).size=cs.size:=by
 simp only[List.size_toArray,List.length_append,List.length_take,List.length_drop,Array.length_toList]
 omega
def slC (T:Tb) (s:Nat):List Value:=[s,(T s).ve,(T s).pr,(T s).ia,(T s).ip,(T s).fa,(T s).fp,(T s).po,(T s).st,(T s).un]
theorem slC_len (T:Tb) (s:Nat):(slC T s).length=10:=rfl
theorem slC_at (T:Tb) (s k:Nat) (hk:k < 10):(slC T s)[k]? = some (.int .i64 ((T s).get s k)):=by
 have hl:k=0\/k=1\/k=2\/k=3\/k=4\/k=5\/k=6\/k=7\/k=8\/k=9:=by omega
 rcases hl with rfl | rfl | rfl | rfl | rfl | rfl | rfl | rfl | rfl | rfl <;> rfl
theorem slC_one (T:Tb) (s:Nat):∀u ∈ slC T s,u.oneCell'=true:=fun u hu=>by
 simp only[slC,List.mem_cons,List.not_mem_nil,or_false]at hu
 rcases hu with rfl | rfl | rfl | rfl | rfl | rfl | rfl | rfl | rfl | rfl <;> rfl
def slCs (T:Tb):List Nat->List Value
 | []=>[]
 | s::l=>slC T s++slCs T l
theorem slCs_len (T:Tb):∀B:List Nat,(slCs T B).length=B.length * 10
 | []=>rfl
 | s::l=>by rw[slCs,List.length_append,slC_len,slCs_len T l,List.length_cons];omega
theorem slCs_one (T:Tb):∀B:List Nat,∀u ∈ slCs T B,u.oneCell'=true
 | [],_,hu=>by simp[slCs]at hu
 | s::l,u,hu=>by
  rw[slCs,List.mem_append]at hu
  rcases hu with h | h
  ·exact slC_one T s u h
  ·exact slCs_one T l u h
theorem slCs_app (T:Tb):∀A B:List Nat,slCs T (A++B)=slCs T A++slCs T B
 | [],_=>rfl
 | s::l,B=>by rw[List.cons_append,slCs,slCs_app T l B,slCs,List.append_assoc]
theorem slCs_at (T:Tb):∀(B:List Nat) (j s k:Nat),B[j]? = some s->k < 10->(slCs T B)[j * 10+k]? = some (.int .i64 ((T s).get s k))
 | [],_,_,_,h,_=>by simp at h
 | x::l,0,s,k,h,hk=>by
  simp only[List.getElem?_cons_zero,Option.some.injEq]at h
  subst h
  rw[slCs,List.getElem?_append_left (by rw[slC_len];omega),Nat.zero_mul,Nat.zero_add,slC_at T x k hk]
 | x::l,j+1,s,k,h,hk=>by
  rw[List.getElem?_cons_succ]at h
  rw[slCs,List.getElem?_append_right (by rw[slC_len];omega),slC_len,show(j+1) * 10+k - 10=j * 10+k from by omega]
  exact slCs_at T l j s k h hk
def RowsB (w:World) (Z:Nat) (T:Tb) (L:List Nat):Prop:=∃cs:Array Value,w.heap[Z]? = some (.cells cs 187 (0,0))/\cs.size=80/\∀j s:Nat,L[j]? = some s->∀k,k < 10->cs[j * 10+k]? = some (.int .i64 ((T s).get s k))
theorem RowsB.at' (h:RowsB w Z T L) {j s k:Nat} (hj:L[j]? = some s) (hk:k < 10):w.cell? (Z,j * 10+k)=some (.int .i64 ((T s).get s k)):=by
 obtain⟨cs,h1,_,h3⟩:=h
 rw[cell_of_row w Z _ _ _ _ h1,h3 j s hj k hk]
theorem RowsB.lt (h:RowsB w Z T L):Z < w.heap.size:=by
 obtain⟨cs,h1,_,_⟩:=h
 rcases Nat.lt_or_ge Z w with h2 | h2
 ·exact h2
 ·rw[Array.getElem?_eq_none h2]at h1;cases h1
theorem RowsB.below (h:RowsB w Z T L) (hb:Below w w w'):RowsB w' Z T L:=by
 have hl:=h.lt
 obtain⟨cs,h1,h2⟩:=h
 exact⟨cs,by rw[hb.block Z hl];exact h1,h2⟩
theorem RowsB.chg (h:RowsB w Z T L) (hb:Chg b w w') (hn:Z≠b):RowsB w' Z T L:=by
 have hl:=h.lt
 obtain⟨cs,h1,h2⟩:=h
 exact⟨cs,by rw[hb.block Z hl hn];exact h1,h2⟩
theorem RowsB.chg2 (h:RowsB w Z T L) (hb:Chg2 b c w w') (h1:Z≠b) (h2:Z≠c):RowsB w' Z T L:=by
 have hl:=h.lt
 obtain⟨cs,e1,e2⟩:=h
 exact⟨cs,by rw[hb.block Z hl h1 h2];exact e1,e2⟩
theorem RowsB.take (h:RowsB w Z T L) (n:Nat):RowsB w Z T (L.take n):=by
 obtain⟨cs,h1,h2,h3⟩:=h
 refine⟨cs,h1,h2,fun j s hj=>h3 j s ?_⟩
 rw[List.getElem?_take]at hj
 split at hj
 ·exact hj
 ·cases hj
theorem chg_row (w:World) (b:Nat) (cs:Array Value):Chg b w (w.setRow b cs) :=
 ⟨rfl,rfl,rfl,by simp[World.setRow],fun k _ hn=>by simp only[World.setRow];rw[Array.getElem?_modify,if_neg (fun e=>hn e.symm)]⟩
theorem Tryz.cellInfo:∃i,Tryz.prog.info? 187=some i/\i.size=10:=by
 obtain⟨i,hi,hz⟩:=Option.map_eq_some_iff.1 Tryz.infoCell
 simp only[Prod.mk.injEq]at hz
 exact⟨i,hi,hz.2.1⟩
theorem rows_appends (h:RowsB w Z T L) (B:List Nat) (a:Addr) (c:Nat) (ty:TypeId) (ha:∀j u,(slCs T B)[j]? = some u->w.cell? (a.add j)=some u) (hL:L.length+B.length<=8) :
  ∃w',(Builtin.append_ #[130,130] ty #[.slice (some (Z,0)) L.length 8,.slice (some a) B.length c]).run Tryz.prog w=.ok (.slice (some (Z,0)) (L.length+B.length) 8) w'/\RowsB w' Z T (L++B)/\Chg Z w w':=by
 obtain⟨cs,h1,h2,h3⟩:=h
 obtain⟨i,hi,hz⟩ := Tryz.cellInfo
 have hf:=run_firstCells_some (P := Tryz.prog) w i.size B.length a B.length c (slCs T B) (by rw[hz];exact slCs_len T B) ha
 have hle:L.length * 10+(slCs T B).length<=cs.size:=by rw[slCs_len];omega
 have hst:=run_storeCells_at Tryz.prog Z (L.length * 10) 187 (slCs T B) 0 cs w h1 hle (slCs_one T B)
 rw[Nat.add_zero]at hst
 refine⟨w.setRow Z (cs.toList.take (L.length * 10)++slCs T B++cs.toList.drop (L.length * 10+(slCs T B).length)).toArray,?_,⟨_,setRow_heap w Z cs _ _ _ h1,by rw[patch_size _ _ _ hle];exact h2,fun j x hj k hk=>?_⟩,chg_row _ _ _⟩
 ·have hroom:L.length+B.length<=8:=hL
  rw[hz]at hf
  simp[Builtin.append_,run_underlying Tryz.underlying130,sizeOf,typeInfo,hi,hz,Builtin.lenOf,hroom,hf,Addr.add_lit,hst]
 ·rw[patch_at _ _ _ hle,slCs_len]
  rcases Nat.lt_or_ge j L.length with hlt | hge
  ·rw[List.getElem?_append_left hlt]at hj
   rw[if_neg (by omega)]
   exact h3 j x hj k hk
  ·rw[List.getElem?_append_right hge]at hj
   have hjb:=(List.getElem?_eq_some_iff.1 hj).1
   rw[if_pos (by omega),show j * 10+k - L.length * 10=(j - L.length) * 10+k from by omega]
   exact slCs_at T B _ x k hj hk
theorem rows_append (h:RowsB w Z T L) (a:Addr) (s c:Nat) (ty:TypeId) (ha:∀j u,(slC T s)[j]? = some u->w.cell? (a.add j)=some u) (hL:L.length < 8) :
  ∃w',(Builtin.append_ #[130,130] ty #[.slice (some (Z,0)) L.length 8,.slice (some a) 1 c]).run Tryz.prog w=.ok (.slice (some (Z,0)) (L.length+1) 8) w'/\RowsB w' Z T (L++[s])/\Chg Z w w' :=
 rows_appends h [s] a c ty (by rw[slCs,slCs,List.append_nil];exact ha) hL
theorem wpList_append_eq {P:Program} {ops:Array Oper} {rest:List Oper} {o:Oper} {a:Act} {Q:Exit->Act->World->Prop} (hgd:o.guard=none) (s x:Operand) (t:TypeId) (ho:o.op=.call {callee:=.builtin .append,args:=#[s,x],argTypes:=#[t,t]})
  (u v v':Value) (w':World) (hs:a.eval s=u) (hx:a.eval x=v) (hr:(Builtin.append_ #[t,t] o.type #[u,v]).run P w=.ok v' w') (h:wpList P ops Q rest (a.put o.dst v') w'):wpList P ops Q (o::rest) a w:=by
 refine wpList_plain hgd fun K hK=>?_
 unfold Oper.wp execOp
 simp only[ho,resolve,invoke,builtin,Sem.run_bind,Sem.run_pure,Result.andThen_ok,List.map_toArray,List.map_cons,List.map_nil,hs,hx,hr]
 exact hK _ _ h
theorem wpList_store_eq {P:Program} {ops:Array Oper} {rest:List Oper} {o:Oper} {a:Act} {Q:Exit->Act->World->Prop} (hgd:o.guard=none) (ty:TypeId) (x y:Operand) (ho:o.op=.store ty x y)
  (u v:Value) (w':World) (hx:a.eval x=u) (hy:a.eval y=v) (hl:(Instr.storeAt ty u v).run P w=.ok () w') (h:wpList P ops Q rest (a.put o.dst undef) w'):wpList P ops Q (o::rest) a w :=
 wpList_plain hgd fun K hK=>by
  unfold Oper.wp execOp
  simp only[ho,hx,hy,Sem.run_bind,hl,Result.andThen_ok,Sem.run_pure]
  exact hK _ _ h
def ToldM (w:World) (M n:Nat) (D:To):Prop:=∃d:DataW Unit,w.ownsMap Tryz.prog 3 (plainElem Tryz.prog 3) M n d/\∀k:Nat,k < 32->d.atKey (.int .i64 k) (.lit (.int .i64 0))=.lit (.int .i64 (D k))
theorem ikey:Keyed Tryz.prog 3:=int_keyed Tryz.underlying3
theorem izero (w:World):(zeroValue 3).run Tryz.prog w=.ok (.int .i64 0) w:=by kernel_rfl
theorem wfI {x:Int} (h0 : -1000000<=x) (h1:x<=1000000000):(Lit.int .i64 x).wf=true:=WalkArith.wf_i64 (by omega)
theorem ToldM.chg (h:ToldM w M n D) (hb:Chg b w w') (hn:M≠b):ToldM w' M n D:=by
 obtain⟨d,h1,h2⟩:=h
 exact⟨d,h1.kept (row:=some b) ⟨hb.os,hb.tape,hb.output,hb.size,fun k hk hne=>hb.block k hk (by simpa using hne)⟩ (by simpa using hn),h2⟩
theorem ToldM.chg2 (h:ToldM w M n D) (hb:Chg2 b c w w') (h1:M≠b) (h2:M≠c):ToldM w' M n D:=by
 obtain⟨d,e1,e2⟩:=h
 have hl:=e1.lt
 obtain⟨es,ck,a1,a2⟩:=e1
 exact⟨d,⟨es,ck,by rw[hb.block M hl h1 h2];exact a1,a2⟩,e2⟩
theorem ToldM.below (h:ToldM w M n D) (hb:Below w w w'):ToldM w' M n D:=by
 obtain⟨d,h1,h2⟩:=h
 have hl:=h1.lt
 exact(ToldM.chg (b:=M+1) ⟨d,h1,h2⟩ (Chg.of hb) (by omega))
theorem ToldM.lt (h:ToldM w M n D):M < w.heap.size:=by
 obtain⟨d,h1,h2⟩:=h
 exact h1.lt
theorem told_new (w:World):ToldM (w.alloc (.map #[] 0)) w 0 (fun _=>0):=⟨.map [],World.ownsMap_made _ _ _ _,fun _ _=>rfl⟩
structure Tel (w:World) (X b M n:Nat) (D:To) (c:Nat):Prop where
 c0:w.cell? (X,0)=some (.pointer (some (b,0)))
 c1:w.cell? (X,1)=some (.map (some M))
 c2:w.cell? (X,2)=c
 f2:w.frozen? (X,2)=false
 m:ToldM w M n D
 ne:X≠M
 lt:c < 32
theorem Tel.below (h:Tel w X b M n D c) (hb:Below w w w'):Tel w' X b M n D c :=
 ⟨tk hb h.c0,tk hb h.c1,tk hb h.c2,(frozen_of_block (hb.block X (tlt h.c0))).trans h.f2,h.m.below hb,h.ne,h.lt⟩
theorem Tel.chg {g:Nat} (h:Tel w X b M n D c) (hb:Chg g w w') (h1:X≠g) (h2:M≠g):Tel w' X b M n D c :=
 ⟨hb.keeps h1 h.c0,hb.keeps h1 h.c1,hb.keeps h1 h.c2,(frozen_of_block (hb.block X (tlt h.c0) h1)).trans h.f2,h.m.chg hb h2,h.ne,h.lt⟩
theorem Tel.chg2 {g g':Nat} (h:Tel w X b M n D c) (hb:Chg2 g g' w w') (h1:X≠g) (h1':X≠g') (h2:M≠g) (h2':M≠g'):Tel w' X b M n D c :=
 ⟨hb.keeps h1 h1' h.c0,hb.keeps h1 h1' h.c1,hb.keeps h1 h1' h.c2,(frozen_of_block (hb.block X (tlt h.c0) h1 h1')).trans h.f2,h.m.chg2 hb h2 h2',h.ne,h.lt⟩
theorem Tel.cur (h:Tel w X b M n D c) {c':Nat} (hc:c' < 32):Tel (w.setCell (X,2) c') X b M n D c' where
 c0:=by rw[World.cell?_setCell_other _ _ _ _ (by simp)];exact h.c0
 c1:=by rw[World.cell?_setCell_other _ _ _ _ (by simp)];exact h.c1
 c2:=World.cell?_setCell_same' w _ _ (by rw[h.c2];rfl)
 f2:=(World.frozen?_setCell _ _ _ _).trans h.f2
 m:=h.m.chg (Chg.set X 2 w _) (fun e=>h.ne e.symm)
 ne:=h.ne
 lt:=hc
end
end Go.Proofs.YtabndgfdbdjdgaaGreatDoor
