/-
  What the claimed theorem reaches, part Q29.
-/
import Derived.Test.YtabndgfdbdjdgaaGreatDoorQ19
import Derived.Lib.Overlaps
import Derived.Lib.AppendZerosOnto
import Derived.Laws.NewBlocks
import Derived.Test.YtabndgfdbdjdgaaGreatDoorQ00
import Derived.Test.YtabndgfdbdjdgaaGreatDoorQ26
import Derived.Test.YtabndgfdbdjdgaaGreatDoorQ18
import Derived.Test.YtabndgfdbdjdgaaGreatDoorQ28
namespace Go.Proofs.YtabndgfdbdjdgaaGreatDoor
open Go.RowKit
set_option maxRecDepth 100000
set_option maxHeartbeats 8000000
section
variable {w:World} {g cap k:Nat}
theorem wp_copy_eq {P:Program} {o:Oper} {a:Act} {K:Act->World->Prop} {Q:Exit->Act->World->Prop} (d s:Operand) (t:TypeId) (ho:o.op=.call {callee:=.builtin .copy,args:=#[d,s],argTypes:=#[t,t]})
  (u v v':Value) (w':World) (hd:a.eval d=u) (hs:a.eval s=v) (hr:(Builtin.copy_ #[t,t] o.type #[u,v]).run P w=.ok v' w') (h:K (a.put o.dst v') w'):o.wp P a w K Q:=by
 unfold Oper.wp execOp
 simp only[ho,resolve,invoke,builtin,Sem.run_bind,Sem.run_pure,Result.andThen_ok,List.map_toArray,List.map_cons,List.map_nil,hd,hs,hr]
 exact h
theorem wpList_copy_eq {P:Program} {ops:Array Oper} {rest:List Oper} {o:Oper} {a:Act} {Q:Exit->Act->World->Prop} (hgd:o.guard=none) (d s:Operand) (t:TypeId) (ho:o.op=.call {callee:=.builtin .copy,args:=#[d,s],argTypes:=#[t,t]})
  (u v v':Value) (w':World) (hd:a.eval d=u) (hs:a.eval s=v) (hr:(Builtin.copy_ #[t,t] o.type #[u,v]).run P w=.ok v' w') (h:wpList P ops Q rest (a.put o.dst v') w'):wpList P ops Q (o::rest) a w :=
 wpList_plain hgd fun _ hK=>wp_copy_eq d s t ho u v v' w' hd hs hr (hK _ _ h)
theorem rw_copy {cur:Array Value} (h:w.heap[g]? = some (.cells cur 175 (0,0))) (o n dl dc sl sc:Nat) (sa:Addr) (news:List Value) (hn:Nat.min sl dl=n) (hlen:news.length=n * 5) (hone:∀u ∈ news,u.oneCell'=true)
  (hsrc:∀j v,news[j]? = some v->w.cell? (sa.add j)=some v) (hfit:o+news.length<=cur.size) (ty:TypeId) :
  ∃w',(Builtin.copy_ #[109,109] ty #[.slice (some (g,o)) dl dc,.slice (some sa) sl sc]).run Tryz.prog w=.ok (goInt n) w'/\w'.heap[g]? = some (.cells (cur.toList.take o++news++cur.toList.drop (o+news.length)).toArray 175 (0,0))/\Chg g w w':=by
 obtain⟨i,hi,hz⟩:=noteInfo
 have hf:=run_firstCells_some (P := Tryz.prog) w i.size n sa sl sc news (by rw[hz];exact hlen) hsrc
 have hst:=run_storeCells_at Tryz.prog g o 175 news 0 cur w h (by simpa using hfit) hone
 rw[Nat.add_zero]at hst
 refine⟨_,?_,setRow_heap w g cur _ _ _ h,chg_row _ _ _⟩
 rw[hz]at hf
 simp[Builtin.copy_,run_underlying Tryz.underlying109,sizeOf,typeInfo,hi,hz,Builtin.lenOf,hn,hf,hst]
theorem insertIdx_get {α:Type} (l:List α) (k:Nat) (r:α) (hk:k<=l.length) (i:Nat):(l.insertIdx k r)[i]? = if i < k then l[i]? else if i=k then some r else l[i - 1]? := by
 rw[List.getElem?_insertIdx]
 by_cases h1:i < k
 ·rw[if_pos h1,if_pos h1]
 ·rw[if_neg h1,if_neg h1]
  by_cases h2:i=k
  ·rw[if_pos h2,if_pos h2,if_pos (by omega)]
  ·rw[if_neg h2,if_neg h2]
theorem insertIdx_five {R:List (List Value)} {k:Nat} {r:List Value} (h:∀x ∈ R,Five x) (hr:Five r):∀x ∈ R.insertIdx k r,Five x:=fun x hx=>by
 by_cases hk:k<=R.length
 ·rcases(List.mem_insertIdx hk).1 hx with e | e
  ·rw[e];exact hr
  ·exact h x e
 ·rw[List.insertIdx_of_length_lt (by omega)]at hx
  exact h x hx
theorem rw_put {n:Nat} {R:List (List Value)} {cur:Array Value} {r:List Value} (h:w.heap[g]? = some (.cells cur 175 (0,0))) (hsz:cur.size=cap * 5) (hR:R.length=n) (hok:∀x ∈ R,Five x) (hr:Five r) (hk:k<=n) (hn:n+1<=cap)
  (hlo:∀i x j,i < k->R[i]? = some x->j < 5->cur[i * 5+j]? = x[j]?) (hhi:∀i x j,k<=i->R[i]? = some x->j < 5->cur[(i+1) * 5+j]? = x[j]?) (hat:∀j,j < 5->cur[k * 5+j]? = r[j]?):RwB w g cap (R.insertIdx k r) cur:=by
 refine⟨h,hsz,by rw[List.length_insertIdx_of_le_length (by omega)];omega,fun i x j hx hj=>?_,insertIdx_five hok hr⟩
 rw[insertIdx_get R k r (by omega)]at hx
 by_cases h1:i < k
 ·rw[if_pos h1]at hx;exact hlo i x j h1 hx hj
 ·rw[if_neg h1]at hx
  by_cases h2:i=k
  ·rw[if_pos h2]at hx
   cases hx
   rw[h2]
   exact hat j hj
  ·rw[if_neg h2]at hx
   have:=hhi (i - 1) x j (by omega) hx hj
   rw[show i - 1+1=i by omega]at this
   exact this
theorem drop_src {R:List (List Value)} (hok:∀x ∈ R,Five x) (k:Nat):((R.drop k).flatten).length=(R.length - k) * 5/\(∀u ∈ (R.drop k).flatten,u.oneCell'=true)/\∀a j,j < 5->((R.drop k).flatten)[a * 5+j]? = (R[k+a]?).bind (·[j]?):=by
 have hN:∀r ∈ R.drop k,Five r:=fun r hr=>hok r (List.mem_of_mem_drop hr)
 refine⟨by rw[flat_len hN,List.length_drop],flat_one hN,fun a j hj=>by rw[flat_get hN a j hj,List.getElem?_drop]⟩
theorem rw_ins {R:List (List Value)} {cur:Array Value} {r:List Value} (h:RwB w g cap R cur) (hr:Five r) (hk:k < R.length) (hroom:R.length+1<=cap) (vb:Nat) (hvb:vb≠g) (hv:∀j u,r[j]? = some u->w.cell? ⟨vb,j,none⟩=some u) (ty:TypeId) (d1 s1 d2 s2:Nat) :
  ∃w1 w2,(Builtin.copy_ #[109,109] ty #[.slice (some (g,(k+1) * 5)) (R.length - k) d1,.slice (some (g,k * 5)) (R.length+1 - k) s1]).run Tryz.prog w=.ok (goInt ((R.length - k:Nat):Int)) w1/\(Builtin.copy_ #[109,109] ty #[.slice (some (g,k * 5)) (R.length+1 - k) d2,.slice (some (vb,0)) 1 s2]).run Tryz.prog w1=.ok (goInt 1) w2/\(∃cur',RwB w2 g cap (R.insertIdx k r) cur')/\Chg g w w2:=by
 obtain⟨hl,hone,hget⟩:=drop_src h.ok k
 have hsz:=h.sz
 have hfit:(k+1) * 5+((R.drop k).flatten).length<=cur.size:=by rw[hl,hsz];omega
 obtain⟨w1,e1,q1,c1⟩:=rw_copy h.h ((k+1) * 5) (R.length - k) (R.length - k) d1 (R.length+1 - k) s1 (g,k * 5) _ (by simp only[Nat.min_def];split <;> omega) hl hone (fun j v hv=>by
  have e:j=j / 5 * 5+j % 5:=by omega
  have hj5:j % 5 < 5:=Nat.mod_lt _ (by omega)
  rw[e,hget _ _ hj5]at hv
  obtain⟨x,hx,hv⟩:=Option.bind_eq_some_iff.1 hv
  have:=h.cell hx hj5
  rw[hv]at this
  rw[addr_addW,show k * 5+j=(k+j / 5) * 5+j % 5 by omega]
  exact this) hfit ty
 have hsz1:=patch_size cur ((k+1) * 5) _ hfit
 have hat1:=patch_at cur ((k+1) * 5) _ hfit
 generalize (cur.toList.take ((k+1) * 5)++(R.drop k).flatten++cur.toList.drop ((k+1) * 5+((R.drop k).flatten).length)).toArray=cur1 at q1 hsz1 hat1
 have hfit2:k * 5+r.length<=cur1.size:=by rw[hsz1,hsz,hr.1];omega
 obtain⟨w2,e2,q2,c2⟩:=rw_copy q1 (k * 5) 1 (R.length+1 - k) d2 1 s2 (vb,0) r (by simp only[Nat.min_def];split <;> omega) (by rw[hr.1]) hr.2 (fun j v hj=>by
  rw[addr_addW,Nat.zero_add]
  exact c1.keeps hvb (hv j v hj)) hfit2 ty
 have hsz2:=patch_size cur1 (k * 5) _ hfit2
 have hat2:=patch_at cur1 (k * 5) _ hfit2
 generalize (cur1.toList.take (k * 5)++r++cur1.toList.drop (k * 5+r.length)).toArray=cur2 at q2 hsz2 hat2
 refine⟨w1,w2,e1,e2,⟨cur2,rw_put q2 (by omega) rfl h.ok hr (by omega) hroom ?_ ?_ ?_⟩,c1.trans c2⟩
 ·intro i x j hi hx hj
  rw[hat2,if_neg (by omega),hat1,if_neg (by omega)]
  exact h.at' i x j hx hj
 ·intro i x j hi hx hj
  have hil:=(List.getElem?_eq_some_iff.1 hx).1
  rw[hat2,if_neg (by rw[hr.1];omega),hat1,if_pos (by rw[hl];omega),show(i+1) * 5+j - (k+1) * 5=(i - k) * 5+j by omega,hget _ _ hj,show k+(i - k)=i by omega,hx]
  rfl
 ·intro j hj
  rw[hat2,if_pos (by rw[hr.1];omega),show k * 5+j - k * 5=j by omega]
theorem rw_gro {G cap':Nat} {R:List (List Value)} {cur ROW:Array Value} {r:List Value} (h:RwB w g cap R cur) (hG:w.heap[G]? = some (.cells ROW 175 (0,0))) (hg:g≠G) (hr:Five r) (hk:k < R.length) (hsz:ROW.size=cap' * 5) (hroom:R.length+1<=cap')
  (hlo:∀i x j,i < k->R[i]? = some x->j < 5->ROW[i * 5+j]? = x[j]?) (vb:Nat) (hv:∀j u,r[j]? = some u->w.cell? ⟨vb,j,none⟩=some u) (ty:TypeId) (d1 s1 d2 s2:Nat) :
  ∃w1 w2,(Builtin.copy_ #[109,109] ty #[.slice (some (G,k * 5)) (R.length+1 - k) d1,.slice (some (vb,0)) 1 s1]).run Tryz.prog w=.ok (goInt 1) w1/\(Builtin.copy_ #[109,109] ty #[.slice (some (G,(k+1) * 5)) (R.length - k) d2,.slice (some (g,k * 5)) (R.length - k) s2]).run Tryz.prog w1.drew=.ok (goInt ((R.length - k:Nat):Int)) w2/\(∃cur',RwB w2 G cap' (R.insertIdx k r) cur')/\Chg G w w2:=by
 obtain⟨hl,hone,hget⟩:=drop_src h.ok k
 have hfit2:k * 5+r.length<=ROW.size:=by rw[hsz,hr.1];omega
 obtain⟨w1,e1,q1,c1⟩:=rw_copy hG (k * 5) 1 (R.length+1 - k) d1 1 s1 (vb,0) r (by simp only[Nat.min_def];split <;> omega) (by rw[hr.1]) hr.2 (fun j v hj=>by
  rw[addr_addW,Nat.zero_add]
  exact hv j v hj) hfit2 ty
 have hsz1:=patch_size ROW (k * 5) _ hfit2
 have hat1:=patch_at ROW (k * 5) _ hfit2
 generalize (ROW.toList.take (k * 5)++r++ROW.toList.drop (k * 5+r.length)).toArray=cur1 at q1 hsz1 hat1
 have hfit:(k+1) * 5+((R.drop k).flatten).length<=cur1.size:=by rw[hl,hsz1,hsz];omega
 have q1':w1.drew.heap[G]? = some (.cells cur1 175 (0,0)):=q1
 obtain⟨w2,e2,q2,c2⟩:=rw_copy q1' ((k+1) * 5) (R.length - k) (R.length - k) d2 (R.length - k) s2 (g,k * 5) _ (by simp only[Nat.min_def];split <;> omega) hl hone (fun j v hv=>by
  have e:j=j / 5 * 5+j % 5:=by omega
  have hj5:j % 5 < 5:=Nat.mod_lt _ (by omega)
  rw[e,hget _ _ hj5]at hv
  obtain⟨x,hx,hv⟩:=Option.bind_eq_some_iff.1 hv
  have:=h.cell hx hj5
  rw[hv]at this
  rw[addr_addW,show k * 5+j=(k+j / 5) * 5+j % 5 by omega]
  exact c1.keeps hg this) hfit ty
 have hsz2:=patch_size cur1 ((k+1) * 5) _ hfit
 have hat2:=patch_at cur1 ((k+1) * 5) _ hfit
 generalize (cur1.toList.take ((k+1) * 5)++(R.drop k).flatten++cur1.toList.drop ((k+1) * 5+((R.drop k).flatten).length)).toArray=cur2 at q2 hsz2 hat2
 refine⟨w1,w2,e1,e2,⟨cur2,rw_put q2 (by omega) rfl h.ok hr (by omega) hroom ?_ ?_ ?_⟩,(c1.trans (Chg.of (Below.refl _ _).drew)).trans c2⟩
 ·intro i x j hi hx hj
  rw[hat2,if_neg (by omega),hat1,if_neg (by omega)]
  exact hlo i x j hi hx hj
 ·intro i x j hi hx hj
  have hil:=(List.getElem?_eq_some_iff.1 hx).1
  rw[hat2,if_pos (by rw[hl];omega),show(i+1) * 5+j - (k+1) * 5=(i - k) * 5+j by omega,hget _ _ hj,show k+(i - k)=i by omega,hx]
  rfl
 ·intro j hj
  rw[hat2,if_neg (by omega),hat1,if_pos (by rw[hr.1];omega),show k * 5+j - k * 5=j by omega]
def Insd (w:World) (g n k:Nat) (R:List (List Value)) (r:List Value) (e:Ending) (w':World):Prop:=∃g' c' cur',e=.returned (.slice (some ⟨g',0,none⟩) (n+1) c')/\RwB w' g' c' (R.insertIdx k r) cur'/\c'<=maxLen/\Chg g w w'/\(g'=g\/w.heap.size<=g')
end
theorem ninsert_end (g cap:Nat) (R:List (List Value)) (r:List Value) (cur:Array Value) (w:World) (h:RwB w g cap R cur) (hr:Five r) (hn:R.length<=200) (hc:cap<=maxLen) (vb:Nat) (hv:∀j u,r[j]? = some u->w.cell? ⟨vb,j,none⟩=some u) :
  Calls Tryz.prog 111 #[.slice (some (g,0)) R.length cap,R.length,.slice (some (vb,0)) 1 1] w fun e w'=>Insd w g R.length R.length R r e w':=by
 obtain⟨i0,hi,hz0,hz1,hz2⟩:=info_parts Tryz.infoNote
 have hlt:=h.lt
 have own:=h.own (base:=0) hc (Nat.zero_le _)
 obtain⟨v',w4,a1,a2,a3,_,a5⟩:=run_append_own_at (P := Tryz.prog) w 0 109 109 175 i0 _ 5 56 Tryz.underlying109 hi hz0 hz1 hz2 rfl (by decide) (.slice (some ⟨g,0,none⟩) R.length cap) R.length R.flatten own ⟨vb,0,none⟩ 1 1 r (by rw[hr.1]) (fun j u hj=>by rw[addr_addW,Nat.zero_add];exact hv j u hj) hr.2 (by unfold maxLen;omega) (by omega) (Nat.zero_le _)
 have hfl:R.flatten++r=(R++[r]).flatten:=by simp
 rw[hfl]at a2
 have hRr:∀x ∈ R++[r],Five x:=fun x hx=>by
  rcases List.mem_append.1 hx with q | q
  ·exact h.ok x q
  ·have:x=r:=by simpa using q
   rw[this];exact hr
 obtain⟨g',c',rfl,hg0,hg1,hg2,hg3⟩:∃g' c',v'=.slice (some ⟨g',0,none⟩) (R.length+1) c'/\0<=g'/\g' < w4.heap.size/\R.length+1<=c'/\c'<=maxLen:=by
  rcases ownsRow_cases a2 with⟨_,q⟩ | q
  ·omega
  ·exact q
 obtain⟨cur',R4⟩:=RwB.of_own a2 hRr (by simp)
 have HR4:Hid (RwB w4 g' c' (R.insertIdx R.length r) cur'):=by rw[List.insertIdx_length_self];exact R4
 have HC4:Hid (c'<=maxLen/\Chg g w w4/\(g'=g\/w.heap.size<=g')):=by
  refine⟨hg3,⟨a3.os,a3.tape,a3.output,a3.size,fun q hq hn=>a3.block q hq (fun e=>hn (by cases e;rfl))⟩,?_⟩
  rcases a5 with q | q
  ·cases q;exact .inl rfl
  ·cases q;exact .inr (Nat.le_refl _)
 have k1:(R.length:Int)<=(cap:Int):=by have:=h.le;omega
 have k2:R.length<=cap:=h.le
 clear h hr hn hc hv own a2 a3 a5 hfl hRr hg0 hg1 hg2 hg3 R4 hlt
 by_cases hcap:cap=R.length
 all_goals
  go_enter Tryz.func111,Tryz.ntmps111
  go_wp2_with (at_builtin;refine wpList_append_eq rfl _ _ 109 rfl _ _ _ _ rfl rfl a1 ?_)
  go_ret
  exact⟨g',c',cur',rfl,HR4,HC4⟩
theorem overlaps_apart (w:World) (g vb cap vc la lb o:Nat) (cur:Array Value) (r:List Value) (hg:w.heap[g]? = some (.cells cur 175 (0,0))) (hz:cur.size≠0) (hv:w.heap[vb]? = some (.cells r.toArray 175 (0,0))) (hne:vb≠g) :
  (callFunc 147 #[.slice (some (vb,0)) la vc,.slice (some (g,o)) lb cap]).run Tryz.prog w=.ok (.value (.bool false)) w:=by
 have hsz:∀w,(Go.sizeOf 175).run Tryz.prog w=.ok 5 w:=fun w=>by kernel_rfl
 rw[run_callFunc_extern Tryz.func147 (by kernel_rfl) (by kernel_rfl) (by kernel_rfl) (e:=Extern.SlicesOverlaps.overlaps #[109,109] #[4]) (by kernel_rfl),
  Go.Lib.run_overlaps_apart w 109 4 175 Tryz.underlying109 5 hsz ⟨vb,0,none⟩ ⟨g,o,none⟩ la vc lb cap hne 175 175 r.toArray.size cur.size (by simp[World.shape?,hv]) (by simp[World.shape?,hg]) hz (by simp[World.frozen?,hv]) (by simp[World.frozen?,hv])]
 rfl
theorem ninsert_shift (g cap k:Nat) (R:List (List Value)) (r:List Value) (cur:Array Value) (w:World) (h:RwB w g cap R cur) (hr:Five r) (hk:k < R.length) (hroom:R.length+1<=cap) (hc:cap<=maxLen) (vb:Nat) (hvb:vb≠g) (hv:w.heap[vb]? = some (.cells r.toArray 175 (0,0))) :
  Calls Tryz.prog 111 #[.slice (some (g,0)) R.length cap,k,.slice (some (vb,0)) 1 1] w fun e w'=>Insd w g R.length k R r e w':=by
 have hD:RwB w.drew g cap R cur:=⟨h.h,h.sz,h.le,h.at',h.ok⟩
 have hov:=overlaps_apart w g vb (cap - (k+1)) 1 1 (R.length - k) ((k+1) * 5) cur r h.h (by rw[h.sz];omega) hv hvb
 obtain⟨w1,w2,e1,e2,⟨cur',R2⟩,C2⟩:=rw_ins hD hr hk hroom vb hvb (fun j u hj=>by rw[cell_of_row w.drew vb _ _ _ _ hv];simpa using hj) 3 (cap - (k+1)) (cap - k) (cap - k) 1
 have HR2:Hid (RwB w2 g cap (R.insertIdx k r) cur'/\Chg g w w2/\cap<=maxLen):=⟨R2,(Chg.of (Below.refl _ _).drew).trans C2,hc⟩
 obtain⟨n,hn⟩:∃n,n=R.length:=⟨_,rfl⟩
 rw[<- hn]at hov e1 e2 hk hroom ⊢
 have k0:(0:Int)<=(k:Int):=by omega
 have k1:(k:Int)<=(n:Int):=by omega
 have k2:(k:Int)<=(cap:Int):=by omega
 have k3:((k:Int)==(n:Int))=false:=by rw[beq_eq_false_iff_ne];omega
 have k4:¬(cap:Int) < (n:Int)+1:=by omega
 have k5:(0:Int)<=(n:Int)+1:=by omega
 have k6:(n:Int)+1<=(cap:Int):=by omega
 have k7:IntKind.i64.wrap ((k:Int)+1)=(k:Int)+1:=by unfold maxLen at hc;rw[IntKind.wrap_i64];omega
 have k8:IntKind.i64.wrap ((n:Int)+1)=(n:Int)+1:=by unfold maxLen at hc;rw[IntKind.wrap_i64];omega
 have k9:(0:Int)<=(k:Int)+1:=by omega
 have k10:(k:Int)+1<=(n:Int)+1:=by omega
 have k11:¬cap=k+1:=by omega
 have k12:¬cap=k:=by omega
 have k13:(k:Int)<=(n:Int)+1:=by omega
 have k14:k<=n:=by omega
 have k15:k<=n+1:=by omega
 clear h hr hk hroom hc hv hvb hD R2 C2 hn
 go_enter Tryz.func111,Tryz.ntmps111
 go_wp2_with (simp only[hov])
 refine wp_region_noPanic ?_
 refine wp_region_held_drew (S:=(fun w':World=>w'=w.drew\/w'=w1)) (by kernel_rfl) (.inl rfl) (fun _=>?_)
 refine tkA 0 (v:=?_) rfl (Or.inl ⟨by rfl,?_⟩) (.inl rfl) ?_
 rotate_left
 ·intro w9 hSw;(try dsimp only at hSw);go_simp;try (with_reducible rfl)
 simp only[sP]
 refine tkA 1 (v:=?_) rfl (Or.inl ⟨by rfl,?_⟩) (.inl rfl) ?_
 rotate_left
 ·intro w9 hSw;(try dsimp only at hSw);go_simp;try (with_reducible rfl)
 simp only[sP]
 refine tkA 2 (v:=?_) rfl (Or.inl ⟨by rfl,?_⟩) (.inl rfl) ?_
 rotate_left
 ·intro w9 hSw;(try dsimp only at hSw);go_simp;try (with_reducible rfl)
 simp only[sP]
 refine tkA 3 (v:=?_) rfl (Or.inl ⟨by rfl,?_⟩) (.inl rfl) ?_
 rotate_left
 ·intro w9 hSw;(try dsimp only at hSw);go_simp;try (with_reducible rfl)
 simp only[sP]
 refine tkA 4 (v:=?_) rfl (Or.inl ⟨by rfl,?_⟩) (.inl rfl) ?_
 rotate_left
 ·intro w9 hSw;(try dsimp only at hSw);go_simp;try (with_reducible rfl)
 simp only[sP]
 refine tkA 5 (v:=?_) rfl (Or.inl ⟨by rfl,?_⟩) (.inl rfl) ?_
 rotate_left
 ·intro w9 hSw;(try dsimp only at hSw);go_simp;try (with_reducible rfl)
 simp only[sP]
 refine tkA 6 (v:=?_) rfl (Or.inl ⟨by rfl,?_⟩) (.inl rfl) ?_
 rotate_left
 ·intro w9 hSw;(try dsimp only at hSw);go_simp;try (with_reducible rfl)
 simp only[sP]
 refine tkA 7 (v:=?_) rfl (Or.inl ⟨by rfl,?_⟩) (.inl rfl) ?_
 rotate_left
 ·intro w9 hSw;(try dsimp only at hSw);go_simp;try (with_reducible rfl)
 simp only[sP]
 refine wpAnyH_ready (rs:=[8]) (by kernel_rfl) (by simp) ?_
 refine AllReadyH.cons (o:=_) rfl (fun K hK=>?_) AllReadyH.nil
 refine Eq.mpr (if_pos (by kernel_rfl)) ?_
 refine wp_copy_eq (Operand.tmp 73) (Operand.tmp 76) 109 rfl _ _ _ _ rfl rfl e1 ?_
 refine hK.out _ _ ?_ (fun _=>?_)
 ·exact .inr rfl
 clear hK K
 try simp only[sP]
 refine wpAnyH_done (by kernel_rfl) ?_ _
 refine NoPanic.normal ?_
 clear e1 hov
 go_wp2_with (at_builtin;refine wpList_copy_eq rfl _ _ 109 rfl _ _ _ _ rfl rfl e2 ?_)
 go_ret
 exact⟨g,cap,cur',rfl,HR2.1,HR2.2.2,HR2.2.1,.inl rfl⟩
theorem ninsert_grow (g cap k:Nat) (R:List (List Value)) (r:List Value) (cur:Array Value) (w:World) (h:RwB w g cap R cur) (hr:Five r) (hk:k < R.length) (hn200:R.length<=200) (hroom:cap < R.length+1) (vb:Nat) (hv:∀j u,r[j]? = some u->w.cell? ⟨vb,j,none⟩=some u) :
  Calls Tryz.prog 111 #[.slice (some (g,0)) R.length cap,k,.slice (some (vb,0)) 1 1] w fun e w'=>Insd w g R.length k R r e w':=by
 obtain⟨i0,hi,hz0,hz1,hz2⟩:=info_parts Tryz.infoNote
 have hle:=h.le
 have hlt:=h.lt
 have hTk:∀x ∈ R.take k,Five x:=fun x hx=>h.ok x (List.mem_of_mem_take hx)
 have hold:(Builtin.firstCells i0.size k (.slice (some (g,0)) k cap)).run Tryz.prog w.drew=.ok ((R.take k).flatten).toArray w.drew:=run_firstCells_some w.drew i0.size k (g,0) k cap ((R.take k).flatten) (by rw[hz1,flat_len hTk,List.length_take];congr 1;omega) (fun j v hj=>by
  have e:j=j / 5 * 5+j % 5:=by omega
  have hj5:j % 5 < 5:=Nat.mod_lt _ (by omega)
  rw[e,flat_get hTk _ _ hj5]at hj
  obtain⟨x,hx,hv⟩:=Option.bind_eq_some_iff.1 hj
  rw[List.getElem?_take]at hx
  split at hx
  ·have:=h.cell hx hj5
   rw[hv]at this
   rw[addr_addW,Nat.zero_add,e]
   exact this
  ·cases hx)
 obtain⟨c',hc'⟩:∃c',c'=grownCap w (R.length+1) cap 175:=⟨_,rfl⟩
 have hc1:R.length+1<=c':=by rw[hc'];exact grownCap_ge _ _ _ _
 have hc2:c'<=maxLen:=by rw[hc'];exact grownCap_le_maxLen _ _ _ _ (by unfold maxLen;omega)
 have hap:=fun ty=>Go.Lib.run_append_grow_zeros (P := Tryz.prog) w 109 3 ty 175 i0 _ .i64 .i64 Tryz.underlying109 Tryz.underlying3 hi hz0 (some (g,0)) k cap ((R.take k).flatten) hold (R.length+1 - k) (by omega) (by rw[hz1];omega) (by omega) (by omega) (by rw[hz2];omega) (by rw[hz2];exact growslice_fits (by omega) (by omega))
 rw[show k+(R.length+1 - k)=R.length+1 by omega,<- hc']at hap
 obtain⟨ROW,hROW⟩:∃ROW:Array Value,ROW=((R.take k).flatten).toArray++Builtin.zeroCells (Value.cells (.agg #[.int .i64 0,.int .i64 0,.int .i64 0,.bool false,.slice none 0 0])) (R.length+1 - k)++Builtin.zeroCells (Value.cells (.agg #[.int .i64 0,.int .i64 0,.int .i64 0,.bool false,.slice none 0 0])) (c' - (R.length+1)):=⟨_,rfl⟩
 rw[<- hROW]at hap
 have hz5:(Value.cells (.agg #[.int .i64 0,.int .i64 0,.int .i64 0,.bool false,.slice none 0 0])).size=5:=by kernel_rfl
 have hsz:ROW.size=c' * 5:=by
  rw[hROW,Array.size_append,Array.size_append,size_zeroCells,size_zeroCells,hz5,List.size_toArray,flat_len hTk,List.length_take]
  omega
 have hlo:∀i x j,i < k->R[i]? = some x->j < 5->ROW[i * 5+j]? = x[j]? := fun i x j hik hx hj=>by
  have hl:i * 5+j < ((R.take k).flatten).toArray.size:=by rw[List.size_toArray,flat_len hTk,List.length_take];omega
  rw[hROW,Array.append_assoc,Array.getElem?_append_left hl,List.getElem?_toArray,flat_get hTk _ _ hj,List.getElem?_take,if_pos hik,hx]
  rfl
 obtain⟨W1,hW1⟩:∃W1,W1=w.drew.alloc (.cells ROW 175):=⟨_,rfl⟩
 rw[<- hW1]at hap
 have hb1:Below w w W1:=by rw[hW1];exact t2 (Below.refl _ _).drew (aB _ _)
 have hG:W1.heap[w.heap.size]? = some (.cells ROW 175 (0,0)):=by rw[hW1];exact heap_alloc_new w.drew _
 have h1:RwB W1 g cap R cur:=h.kept (hb1.block g hlt)
 obtain⟨w2,w3,e1,e2,⟨cur',R3⟩,C3⟩:=rw_gro h1 hG (by omega) hr hk hsz hc1 hlo vb (fun j u hj=>tk hb1 (hv j u hj)) 3 (c' - k) 1 (c' - (k+1)) (cap - k)
 have HR3:Hid (RwB w3 w c' (R.insertIdx k r) cur'/\Chg g w w3/\c'<=maxLen):=by
  refine⟨R3,⟨C3.os.trans hb1.os,C3.tape.trans hb1.tape,C3.output.trans hb1.output,Nat.le_trans hb1.size C3.size,fun q hq _=>(C3.block q (Nat.lt_of_lt_of_le hq hb1.size) (by omega)).trans (hb1.block q hq)⟩,hc2⟩
 obtain⟨n,hn⟩:∃n,n=R.length:=⟨_,rfl⟩
 rw[<- hn]at hap e1 e2 hk hroom hc1 hle hn200 ⊢
 have k5':((n+1 - k:Nat):Int)=(n:Int)+1 - (k:Int):=by omega
 rw[k5']at hap
 have k17:(n:Int)<=200:=by omega
 have k18:0 < (n:Int)+1 - (k:Int):=by omega
 have k0:(0:Int)<=(k:Int):=by omega
 have k1:(k:Int)<=(n:Int):=by omega
 have k2:(k:Int)<=(cap:Int):=by omega
 have k3:((k:Int)==(n:Int))=false:=by rw[beq_eq_false_iff_ne];omega
 have k4:(cap:Int) < (n:Int)+1:=by omega
 have k7:IntKind.i64.wrap ((k:Int)+1)=(k:Int)+1:=by rw[IntKind.wrap_i64];omega
 have k8:IntKind.i64.wrap ((n:Int)+1)=(n:Int)+1:=by rw[IntKind.wrap_i64];omega
 have k5:IntKind.i64.wrap ((n:Int)+1 - (k:Int))=(n:Int)+1 - (k:Int):=by rw[IntKind.wrap_i64];omega
 have k9:(0:Int)<=(k:Int)+1:=by omega
 have k10:(k:Int)+1<=(n:Int)+1:=by omega
 have k11:¬c'=k+1:=by omega
 have k12:¬c'=k:=by omega
 have k16:¬cap=k:=by omega
 have k13:(k:Int)<=(n:Int)+1:=by omega
 have k14:k<=n:=by omega
 have k15:k<=n+1:=by omega
 have HW:Hid (W1=w.drew.alloc (.cells ROW 175)):=hW1
 generalize hGe:w.heap.size=G at *
 have HGE:Hid (w.heap.size<=G):=(by omega:w.heap.size<=G)
 clear hGe k5' h hr hk hroom hv hTk hold hc' hc2 hROW hz5 hsz hlo hW1 hb1 hG h1 R3 C3 hn hlt hle hn200 hi hz0 hz1 hz2
 go_enter Tryz.func111,Tryz.ntmps111
 go_wp2_with (first
  | (at_builtin;refine Go.Lib.wpList_append_run _ rfl _ _ _ _ rfl _ _ rfl rfl _ _ (hap _) ?_)
  | (at_builtin;refine wpList_copy_eq rfl _ _ 109 rfl _ _ _ _ rfl rfl e1 ?_))
 refine wp_region_noPanic ?_
 refine wp_region_held_drew (S:=(fun w':World=>w'=w2.drew\/w'=w3)) (by kernel_rfl) (.inl rfl) (fun _=>?_)
 refine tkA 0 (v:=?_) rfl (Or.inl ⟨by rfl,?_⟩) (.inl rfl) ?_
 rotate_left
 ·intro w9 hSw;(try dsimp only at hSw);go_simp;try (with_reducible rfl)
 simp only[sP]
 refine tkA 1 (v:=?_) rfl (Or.inl ⟨by rfl,?_⟩) (.inl rfl) ?_
 rotate_left
 ·intro w9 hSw;(try dsimp only at hSw);go_simp;try (with_reducible rfl)
 simp only[sP]
 refine tkA 2 (v:=?_) rfl (Or.inl ⟨by rfl,?_⟩) (.inl rfl) ?_
 rotate_left
 ·intro w9 hSw;(try dsimp only at hSw);go_simp;try (with_reducible rfl)
 simp only[sP]
 refine tkA 3 (v:=?_) rfl (Or.inl ⟨by rfl,?_⟩) (.inl rfl) ?_
 rotate_left
 ·intro w9 hSw;(try dsimp only at hSw);go_simp;try (with_reducible rfl)
 simp only[sP]
 refine tkA 4 (v:=?_) rfl (Or.inl ⟨by rfl,?_⟩) (.inl rfl) ?_
 rotate_left
 ·intro w9 hSw;(try dsimp only at hSw);go_simp;try (with_reducible rfl)
 simp only[sP]
 refine tkA 5 (v:=?_) rfl (Or.inl ⟨by rfl,?_⟩) (.inl rfl) ?_
 rotate_left
 ·intro w9 hSw;(try dsimp only at hSw);go_simp;try (with_reducible rfl)
 simp only[sP]
 refine tkA 6 (v:=?_) rfl (Or.inl ⟨by rfl,?_⟩) (.inl rfl) ?_
 rotate_left
 ·intro w9 hSw;(try dsimp only at hSw);go_simp;try (with_reducible rfl)
 simp only[sP]
 refine tkA 7 (v:=?_) rfl (Or.inl ⟨by rfl,?_⟩) (.inl rfl) ?_
 rotate_left
 ·intro w9 hSw;(try dsimp only at hSw);go_simp;try (with_reducible rfl)
 simp only[sP]
 refine wpAnyH_ready (rs:=[8]) (by kernel_rfl) (by simp) ?_
 refine AllReadyH.cons (o:=_) rfl (fun K hK=>?_) AllReadyH.nil
 refine Eq.mpr (if_pos (by kernel_rfl)) ?_
 refine wp_copy_eq (Operand.tmp 50) (Operand.tmp 53) 109 rfl _ _ _ _ rfl rfl e2 ?_
 refine hK.out _ _ ?_ (fun _=>?_)
 ·exact .inr rfl
 clear hK K
 try simp only[sP]
 refine wpAnyH_done (by kernel_rfl) ?_ _
 refine NoPanic.normal ?_
 go_wp2_with fail
 go_ret
 exact⟨G,c',cur',rfl,HR3.1,HR3.2.2,HR3.2.1,.inr HGE⟩
theorem ninsert_any (g cap k:Nat) (R:List (List Value)) (r:List Value) (cur:Array Value) (w:World) (h:RwB w g cap R cur) (hr:Five r) (hk:k<=R.length) (hn:R.length<=200) (hc:cap<=maxLen) (vb:Nat) (hvb:vb≠g) (hv:w.heap[vb]? = some (.cells r.toArray 175 (0,0))) :
  Calls Tryz.prog 111 #[.slice (some (g,0)) R.length cap,k,.slice (some (vb,0)) 1 1] w fun e w'=>Insd w g R.length k R r e w':=by
 have hvc:∀j u,r[j]? = some u->w.cell? ⟨vb,j,none⟩=some u:=fun j u hj=>by rw[cell_of_row w vb _ _ _ _ hv];simpa using hj
 have hvl:vb < w.heap.size:=by
  rcases Nat.lt_or_ge vb w with a | a
  ·exact a
  ·rw[Array.getElem?_eq_none a]at hv;cases hv
 by_cases h1:k=R.length
 ·subst h1
  exact ninsert_end g cap R r cur w h hr hn hc vb hvc
 ·by_cases h2:R.length+1<=cap
  ·exact ninsert_shift g cap k R r cur w h hr (by omega) h2 hc vb hvb hv
  ·exact ninsert_grow g cap k R r cur w h hr (by omega) hn (by omega) vb hvc
theorem zip_insert {α β γ:Type} (f:α->β->γ):∀(l:List α) (m:List β) (k:Nat) (a:α) (b:β),m.length=l.length->(List.zipWith f l m).insertIdx k (f a b)=List.zipWith f (l.insertIdx k a) (m.insertIdx k b)
 | _,_,0,_,_,_=>by simp
 | [],[],_+1,_,_,_=>by simp
 | [],_::_,_+1,_,_,h=>by simp at h
 | _::_,[],_+1,_,_,h=>by simp at h
 | _::l,_::m,k+1,a,b,h=>by simp[zip_insert f l m k a b (by simpa using h)]
theorem twice_wd {w0 w:World} {K:WK} {x:Wo} {t:Nat} {s:Nat->Addr} (S:SeM w0 s) (h:Wd w0 w K x t) (n:Int) :
  Calls Tryz.prog 55 #[.pointer (some (K.wb,0)),n] w fun e w'=>e=.returned (terr s (x.twE n))/\∃K',Wd w0 w' K' (x.twiced n) t/\Mv K K' w w':=by
 have HS:Hid (SeM w0 s):=S
 have HSW:Hid (SeM w s):=S.below h.bl
 have HW:Hid (Wd w0 w K x t):=h
 clear S h
 go_enter Tryz.func55,Tryz.ntmps55
 go_wp2_with fail
 refine(flies_any HW.wb HW.fl n _ rfl).mono ?_
 rintro e w1 ⟨rfl,hw⟩
 obtain rfl:=hw.symm
 clear hw
 by_cases h2:0<=n/\n < x.fl.length
 ·rw[decide_eq_true h2]
  obtain⟨i,rfl⟩:∃i:Nat,n=i:=⟨n.toNat,by omega⟩
  have hi:i < x.fl.length:=by omega
  have HE:Hid (x.flE (i:Int)=0):=by show x.flE (i:Int)=0;unfold Wo.flE;rw[if_pos h2]
  obtain⟨tt,htt⟩:∃tt,x.fl[i]? = some tt:=⟨x.fl[i],List.getElem?_eq_getElem hi⟩
  obtain⟨v,hv⟩:∃v,K.cv[i]? = some v:=⟨K.cv[i]'(by rw[HW.fl.len];exact hi),List.getElem?_eq_getElem _⟩
  have hn5:=HW.fl.ok i tt v htt hv
  rcases HW.fl.rows with⟨_,e⟩ | ⟨g,c,cur,hg,R,hc⟩
  ·rw[e]at hi;simp at hi
  have c7:w.cell? (K.wb,7)=some (.slice (some (g,0)) x.fl.length c):=by have:=HW.wb.c 7;rw[hg]at this;exact this
  by_cases h200:x.fl.length=200
  ·have HX:Hid (x.twE (i:Int)=6/\x.twiced (i:Int)=x):=by
    have e:x.twE (i:Int)=6:=by unfold Wo.twE;rw[if_pos HE.out,if_pos h200]
    exact⟨e,by unfold Wo.twiced;rw[if_neg (by rw[e];decide)]⟩
   have g5:=HSW.c5
   rw[h200]at c7
   clear h2 hi htt hv hn5 hg R hc
   go_wp2_with fail
   go_ret
   exact⟨by rw[HX.1];rfl,K,by rw[HX.2];exact HW,Mv.of (Below.refl _ _)⟩
  ·have HX:Hid (x.twE (i:Int)=0/\x.twiced (i:Int)={x with fl:=x.fl.insertIdx (i+1) tt}):=by
    have e:x.twE (i:Int)=0:=by unfold Wo.twE;rw[if_pos HE.out,if_neg h200]
    exact⟨e,by unfold Wo.twiced;rw[if_pos e,Int.toNat_natCast,htt]⟩
   have hle:=HW.fl.le
   have hlen:=HW.fl.len
   have hr:=nfR_get htt hv
   have hrl:(nfR x.fl K.cv).length=x.fl.length:=nfR_len hlen
   have hgt:=HW.tg 3 (by omega) g (by simp[WK.part,hg])
   have hgw:K.wb≠g:=fun e=>by have:=hgt.1;rw[<- e,HW.wb0.1]at this;omega
   have hgl:g < w.heap.size:=R.lt
   have hwl:K.wb < w.heap.size:=HW.wb.lt
   have HINS:Hid (∀W,Below w w W->Calls Tryz.prog 111 #[.slice (some (g,0)) x.fl.length c,.int .i64 ((i:Int)+1),.slice (some ⟨W.heap.size,0,none⟩) 1 1] (W.alloc (.cells #[tt.fr,tt.li,tt.ep,.bool tt.cl,v] 175)) fun e w'=>Insd (W.alloc (.cells #[tt.fr,tt.li,tt.ep,.bool tt.cl,v] 175)) g x.fl.length (i+1) (nfR x.fl K.cv) (nfC tt v) e w'):=fun W hW=>by
    have hb:Below w w (W.alloc (.cells #[tt.fr,tt.li,tt.ep,.bool tt.cl,v] 175)):=t2 hW (aB _ _)
    have:=ninsert_any g c (i+1) (nfR x.fl K.cv) (nfC tt v) cur _ (R.kept (hb.block g hgl)) (nfC_five hn5) (by omega) (by omega) (by unfold maxLen;omega) W (by have:=hW.size;omega) (heap_alloc_new W _)
    rw[hrl]at this
    exact_mod_cast this
   have HFIN:Hid (∀w4 g' c' cur',Below w w w4\/Chg g w w4->RwB w4 g' c' ((nfR x.fl K.cv).insertIdx (i+1) (nfC tt v)) cur'->c'<=maxLen->(g'=g\/w.heap.size<=g') ->
     w4.cell? (K.wb,7)=some (.slice (some (g,0)) x.fl.length c)/\w4.frozen? (K.wb,7)=false/\∃K',Wd w0 (w4.setCell (K.wb,7) (.slice (some (g',0)) (x.fl.length+1) c')) K' {x with fl:=x.fl.insertIdx (i+1) tt} t/\Mv K K' w (w4.setCell (K.wb,7) (.slice (some (g',0)) (x.fl.length+1) c'))):=fun w4 g' c' cur' hch R4 hc' hg'=>by
    have hp3:K.part 3=[g]:=by simp[WK.part,hg]
    have C4:ChgL (K.part 3) w w4:=by
     rw[hp3]
     rcases hch with a | a
     ·exact ChgL.of a
     ·exact ChgL.one a (by simp)
    have hwb4:WdB w4 K x:=HW.wb.kept (C4.block _ hwl (by rw[hp3];simpa using hgw))
    have hnew:(x.fl.insertIdx (i+1) tt).length=x.fl.length+1:=List.length_insertIdx_of_le_length (by omega) _
    have hok:∀(j:Nat) t2 v2,(x.fl.insertIdx (i+1) tt)[j]? = some t2->(K.cv.insertIdx (i+1) v)[j]? = some v2->NtOk w K t2 v2:=fun j t2 v2 h1 h2=>by
     rw[insertIdx_get _ _ _ (by omega)]at h1 h2
     by_cases e1:j < i+1
     ·rw[if_pos e1]at h1 h2;exact HW.fl.ok j t2 v2 h1 h2
     ·rw[if_neg e1]at h1 h2
      by_cases e2:j=i+1
      ·rw[if_pos e2]at h1 h2;cases h1;cases h2;exact hn5
      ·rw[if_neg e2]at h1 h2;exact HW.fl.ok (j - 1) t2 v2 h1 h2
    have hz:nfR (x.fl.insertIdx (i+1) tt) (K.cv.insertIdx (i+1) v)=(nfR x.fl K.cv).insertIdx (i+1) (nfC tt v):=(zip_insert nfC _ _ _ _ _ hlen).symm
    have hbase:w0.heap.size<=g':=by
     rcases hg' with e | e
     ·rw[e];exact hgt.2
     ·have:=HW.bl.size;omega
    have own:=R4.own (base:=w0.heap.size) hc' hbase
    have hl2:((nfR x.fl K.cv).insertIdx (i+1) (nfC tt v)).length=x.fl.length+1:=by rw[List.length_insertIdx_of_le_length (by omega),hrl]
    rw[hl2,<- hz]at own
    have fin:=HW.flFin C4 (l':=x.fl.insertIdx (i+1) tt) (cv':=K.cv.insertIdx (i+1) v) (fg':=some (g',c')) (by rw[hnew,List.length_insertIdx_of_le_length (by omega),hlen]) (by omega) hok (.inr ⟨g',c',rfl,by
     rcases hg' with e | e
     ·exact .inl (by rw[hp3,e];simp)
     ·exact .inr e,by rw[hnew];exact own⟩)
    rw[hnew]at fin
    refine⟨?_,hwb4.fr 7,_,fin.1,fin.2⟩
    have:=hwb4.c 7
    rw[hg]at this
    exact this
   have r0:w.cell? (g,i * 5)=tt.fr:=R.cell (j:=0) hr (by omega)
   have r1:w.cell? (g,i * 5+1)=tt.li:=R.cell hr (by omega)
   have r2:w.cell? (g,i * 5+2)=tt.ep:=R.cell hr (by omega)
   have r3:w.cell? (g,i * 5+3)=some (.bool tt.cl):=R.cell hr (by omega)
   have r4:w.cell? (g,i * 5+4)=some v:=R.cell hr (by omega)
   have i0:(0:Int)<=(i:Int):=by omega
   have i1:(i:Int) < (x.fl.length:Int):=by omega
   have i2:i < x.fl.length:=hi
   have i3:((x.fl.length:Int)==200)=false:=by rw[beq_eq_false_iff_ne];omega
   have i4:IntKind.i64.wrap ((i:Int)+1)=(i:Int)+1:=by rw[IntKind.wrap_i64];omega
   obtain⟨p,cap,hvs⟩:∃p cap,v=.slice p tt.cs.length cap:=by obtain⟨⟨p,cap,e,_⟩,_⟩:=hn5;exact⟨p,cap,e⟩
   subst hvs
   clear h2 hi htt hv hn5 hg R hc hr hrl hgt hgw hlen hle h200
   go_wp2_with fail
   have d7:w.drew.cell? (K.wb,7)=some (.slice (some (g,0)) x.fl.length c):=c7
   have q0:w.drew.cell? (g,i * 5)=tt.fr:=r0
   have q1:w.drew.cell? (g,i * 5+1)=tt.li:=r1
   have q2:w.drew.cell? (g,i * 5+2)=tt.ep:=r2
   have q3:w.drew.cell? (g,i * 5+3)=some (.bool tt.cl):=r3
   have q4:w.drew.cell? (g,i * 5+4)=some (.slice p tt.cs.length cap):=r4
   have e7:(w.drew.alloc (.cells #[tt.fr,tt.li,tt.ep,.bool tt.cl,.slice p tt.cs.length cap] 175)).cell? (K.wb,7)=some (.slice (some (g,0)) x.fl.length c):=tk (aB _ _) d7
   refine wp_region_any (by kernel_rfl) ?_
   try (change wpAny _ _ _ _ _ _ _ (World.drew _))
   refine wpAny_take (i:=0) (v:=?_) rfl (by kernel_rfl) (by kernel_rfl) (by kernel_rfl) (fun _ _ _ h=>h) (Or.inl ⟨by rfl,?_⟩) ?_
   rotate_left
   ·intro w9;go_simp;try (with_reducible rfl)
   simp only[sP]
   refine wpAny_take (i:=1) (v:=?_) rfl (by kernel_rfl) (by kernel_rfl) (by kernel_rfl) (fun _ _ _ h=>h) (Or.inl ⟨by rfl,?_⟩) ?_
   rotate_left
   ·intro w9;go_simp;try (with_reducible rfl)
   simp only[sP]
   refine wpAny_take (i:=2) (v:=?_) rfl (by kernel_rfl) (by kernel_rfl) (by kernel_rfl) (fun _ _ _ h=>h) (Or.inl ⟨by rfl,?_⟩) ?_
   rotate_left
   ·intro w9;go_simp;try (with_reducible rfl)
   simp only[sP]
   refine wpAny_take (i:=3) (v:=?_) rfl (by kernel_rfl) (by kernel_rfl) (by kernel_rfl) (fun _ _ _ h=>h) (Or.inl ⟨by rfl,?_⟩) ?_
   rotate_left
   ·intro w9;go_simp;try (with_reducible rfl)
   simp only[sP]
   refine wpAny_take (i:=5) (v:=?_) rfl (by kernel_rfl) (by kernel_rfl) (by kernel_rfl) (fun _ _ _ h=>h) (Or.inl ⟨by rfl,?_⟩) ?_
   rotate_left
   ·intro w9;go_simp;try (with_reducible rfl)
   simp only[sP]
   refine wpAny_take (i:=6) (v:=?_) rfl (by kernel_rfl) (by kernel_rfl) (by kernel_rfl) (fun _ _ _ h=>h) (Or.inl ⟨by rfl,?_⟩) ?_
   rotate_left
   ·intro w9;go_simp;try (with_reducible rfl)
   simp only[sP]
   refine wpAny_take (i:=7) (v:=?_) rfl (by kernel_rfl) (by kernel_rfl) (by kernel_rfl) (fun _ _ _ h=>h) (Or.inl ⟨by rfl,?_⟩) ?_
   rotate_left
   ·intro w9;go_simp;try (with_reducible rfl)
   simp only[sP]
   refine wpAny_take (i:=8) (v:=?_) rfl (by kernel_rfl) (by kernel_rfl) (by kernel_rfl) (fun _ _ _ h=>h) (Or.inl ⟨by rfl,?_⟩) ?_
   rotate_left
   ·intro w9;go_simp;try (with_reducible rfl)
   simp only[sP]
   refine wpAny_take (i:=9) (v:=?_) rfl (by kernel_rfl) (by kernel_rfl) (by kernel_rfl) (fun _ _ _ h=>h) (Or.inl ⟨by rfl,?_⟩) ?_
   rotate_left
   ·intro w9;go_simp;try (with_reducible rfl)
   simp only[sP]
   refine wpAny_take (i:=11) (v:=?_) rfl (by kernel_rfl) (by kernel_rfl) (by kernel_rfl) (fun _ _ _ h=>h) (Or.inl ⟨by rfl,?_⟩) ?_
   rotate_left
   ·intro w9;go_simp;try (with_reducible rfl)
   simp only[sP]
   refine wpAny_ready (rs:=[4,10]) (by kernel_rfl) (by simp) ?_
   refine AllReady.cons rfl (fun K5 hK=>?_) ?_
   ·go_simp
    refine hK _ _ ?_
    clear hK K5
    try simp only[sP]
    refine wpAny_ready (rs:=[10]) (by kernel_rfl) (by simp) ?_
    refine AllReady.cons rfl (fun K5 hK=>?_) AllReady.nil
    go_simp
    refine hK _ _ ?_
    clear hK K5
    try simp only[sP]
    refine wpAny_take (i:=12) (v:=?_) rfl (by kernel_rfl) (by kernel_rfl) (by kernel_rfl) (fun _ _ _ h=>h) (Or.inl ⟨by rfl,?_⟩) ?_
    rotate_left
    ·intro w9;go_simp;try (with_reducible rfl)
    simp only[sP]
    refine wpAny_ready (rs:=[13]) (by kernel_rfl) (by simp) ?_
    refine AllReady.cons rfl (fun K5 hK=>?_) AllReady.nil
    go_simp
    refine hK _ _ ?_
    clear hK K5
    try simp only[sP]
    refine wpAny_ready (rs:=[14]) (by kernel_rfl) (by simp) ?_
    refine AllReady.cons rfl (fun K5 hK=>?_) AllReady.nil
    go_simp
    refine hK _ _ ?_
    clear hK K5
    try simp only[sP]
    refine wpAny_ready (rs:=[15]) (by kernel_rfl) (by simp) ?_
    refine AllReady.cons rfl (fun K5 hK=>?_) AllReady.nil
    go_simp
    refine(HINS w.drew (Below.refl _ _).drew).mono ?_
    rintro e w4 ⟨g',c',cur',rfl,hR4,hc4,hch4,hg4⟩
    go_wp2_with fail
    have FIN:=HFIN.out w4 g' c' cur' (.inr ((Chg.of (t2 (Below.refl _ _).drew (aB _ _))).trans hch4)) hR4 hc4 (by rcases hg4 with e | e;exact .inl e;exact .inr (Nat.le_trans (t2 (Below.refl _ _).drew (aB _ _)).size e))
    obtain⟨f7,z7,K',wd',mv'⟩:=FIN
    have HF:Hid (Wd w0 (w4.setCell (K.wb,7) (.slice (some (g',0)) (x.fl.length+1) c')) K' {x with fl:=x.fl.insertIdx (i+1) tt} t/\Mv K K' w (w4.setCell (K.wb,7) (.slice (some (g',0)) (x.fl.length+1) c'))):=⟨wd',mv'⟩
    clear wd' mv' hR4 hc4 hch4 hg4
    try simp only[sP]
    refine wpAny_take (i:=16) (v:=?_) rfl (by kernel_rfl) (by kernel_rfl) (by kernel_rfl) (fun _ _ _ h=>h) (Or.inl ⟨by rfl,?_⟩) ?_
    rotate_left
    ·intro w9;go_simp;try (with_reducible rfl)
    simp only[sP]
    refine wpAny_take (i:=17) (v:=?_) rfl (by kernel_rfl) (by kernel_rfl) (by kernel_rfl) (fun _ _ _ h=>h) (Or.inl ⟨by rfl,?_⟩) ?_
    rotate_left
    ·intro w9;go_simp;try (with_reducible rfl)
    simp only[sP]
    refine wpAny_ready (rs:=[18]) (by kernel_rfl) (by simp) ?_
    refine AllReady.cons rfl (fun K5 hK=>?_) AllReady.nil
    go_simp
    refine hK _ _ ?_
    clear hK K5
    try simp only[sP]
    refine wpAny_done (by kernel_rfl) ?_ _
    go_wp2_with fail
    go_ret
    exact⟨by rw[HX.1];rfl,_,by rw[HX.2];exact HF.1,HF.2⟩
   refine AllReady.cons rfl (fun K5 hK=>?_) AllReady.nil
   go_simp
   refine hK _ _ ?_
   clear hK K5
   try simp only[sP]
   refine wpAny_take (i:=12) (v:=?_) rfl (by kernel_rfl) (by kernel_rfl) (by kernel_rfl) (fun _ _ _ h=>h) (Or.inl ⟨by rfl,?_⟩) ?_
   rotate_left
   ·intro w9;go_simp;try (with_reducible rfl)
   simp only[sP]
   refine wpAny_ready (rs:=[4,13]) (by kernel_rfl) (by simp) ?_
   refine AllReady.cons rfl (fun K5 hK=>?_) ?_
   ·go_simp
    refine hK _ _ ?_
    clear hK K5
    try simp only[sP]
    refine wpAny_ready (rs:=[13]) (by kernel_rfl) (by simp) ?_
    refine AllReady.cons rfl (fun K5 hK=>?_) AllReady.nil
    go_simp
    refine hK _ _ ?_
    clear hK K5
    try simp only[sP]
    refine wpAny_ready (rs:=[14]) (by kernel_rfl) (by simp) ?_
    refine AllReady.cons rfl (fun K5 hK=>?_) AllReady.nil
    go_simp
    refine hK _ _ ?_
    clear hK K5
    try simp only[sP]
    refine wpAny_ready (rs:=[15]) (by kernel_rfl) (by simp) ?_
    refine AllReady.cons rfl (fun K5 hK=>?_) AllReady.nil
    go_simp
    refine(HINS w.drew (Below.refl _ _).drew).mono ?_
    rintro e w4 ⟨g',c',cur',rfl,hR4,hc4,hch4,hg4⟩
    go_wp2_with fail
    have FIN:=HFIN.out w4 g' c' cur' (.inr ((Chg.of (t2 (Below.refl _ _).drew (aB _ _))).trans hch4)) hR4 hc4 (by rcases hg4 with e | e;exact .inl e;exact .inr (Nat.le_trans (t2 (Below.refl _ _).drew (aB _ _)).size e))
    obtain⟨f7,z7,K',wd',mv'⟩:=FIN
    have HF:Hid (Wd w0 (w4.setCell (K.wb,7) (.slice (some (g',0)) (x.fl.length+1) c')) K' {x with fl:=x.fl.insertIdx (i+1) tt} t/\Mv K K' w (w4.setCell (K.wb,7) (.slice (some (g',0)) (x.fl.length+1) c'))):=⟨wd',mv'⟩
    clear wd' mv' hR4 hc4 hch4 hg4
    try simp only[sP]
    refine wpAny_take (i:=16) (v:=?_) rfl (by kernel_rfl) (by kernel_rfl) (by kernel_rfl) (fun _ _ _ h=>h) (Or.inl ⟨by rfl,?_⟩) ?_
    rotate_left
    ·intro w9;go_simp;try (with_reducible rfl)
    simp only[sP]
    refine wpAny_take (i:=17) (v:=?_) rfl (by kernel_rfl) (by kernel_rfl) (by kernel_rfl) (fun _ _ _ h=>h) (Or.inl ⟨by rfl,?_⟩) ?_
    rotate_left
    ·intro w9;go_simp;try (with_reducible rfl)
    simp only[sP]
    refine wpAny_ready (rs:=[18]) (by kernel_rfl) (by simp) ?_
    refine AllReady.cons rfl (fun K5 hK=>?_) AllReady.nil
    go_simp
    refine hK _ _ ?_
    clear hK K5
    try simp only[sP]
    refine wpAny_done (by kernel_rfl) ?_ _
    go_wp2_with fail
    go_ret
    exact⟨by rw[HX.1];rfl,_,by rw[HX.2];exact HF.1,HF.2⟩
   refine AllReady.cons rfl (fun K5 hK=>?_) AllReady.nil
   go_simp
   refine hK _ _ ?_
   clear hK K5
   try simp only[sP]
   refine wpAny_ready (rs:=[4,14]) (by kernel_rfl) (by simp) ?_
   refine AllReady.cons rfl (fun K5 hK=>?_) ?_
   ·go_simp
    refine hK _ _ ?_
    clear hK K5
    try simp only[sP]
    refine wpAny_ready (rs:=[14]) (by kernel_rfl) (by simp) ?_
    refine AllReady.cons rfl (fun K5 hK=>?_) AllReady.nil
    go_simp
    refine hK _ _ ?_
    clear hK K5
    try simp only[sP]
    refine wpAny_ready (rs:=[15]) (by kernel_rfl) (by simp) ?_
    refine AllReady.cons rfl (fun K5 hK=>?_) AllReady.nil
    go_simp
    refine(HINS w.drew (Below.refl _ _).drew).mono ?_
    rintro e w4 ⟨g',c',cur',rfl,hR4,hc4,hch4,hg4⟩
    go_wp2_with fail
    have FIN:=HFIN.out w4 g' c' cur' (.inr ((Chg.of (t2 (Below.refl _ _).drew (aB _ _))).trans hch4)) hR4 hc4 (by rcases hg4 with e | e;exact .inl e;exact .inr (Nat.le_trans (t2 (Below.refl _ _).drew (aB _ _)).size e))
    obtain⟨f7,z7,K',wd',mv'⟩:=FIN
    have HF:Hid (Wd w0 (w4.setCell (K.wb,7) (.slice (some (g',0)) (x.fl.length+1) c')) K' {x with fl:=x.fl.insertIdx (i+1) tt} t/\Mv K K' w (w4.setCell (K.wb,7) (.slice (some (g',0)) (x.fl.length+1) c'))):=⟨wd',mv'⟩
    clear wd' mv' hR4 hc4 hch4 hg4
    try simp only[sP]
    refine wpAny_take (i:=16) (v:=?_) rfl (by kernel_rfl) (by kernel_rfl) (by kernel_rfl) (fun _ _ _ h=>h) (Or.inl ⟨by rfl,?_⟩) ?_
    rotate_left
    ·intro w9;go_simp;try (with_reducible rfl)
    simp only[sP]
    refine wpAny_take (i:=17) (v:=?_) rfl (by kernel_rfl) (by kernel_rfl) (by kernel_rfl) (fun _ _ _ h=>h) (Or.inl ⟨by rfl,?_⟩) ?_
    rotate_left
    ·intro w9;go_simp;try (with_reducible rfl)
    simp only[sP]
    refine wpAny_ready (rs:=[18]) (by kernel_rfl) (by simp) ?_
    refine AllReady.cons rfl (fun K5 hK=>?_) AllReady.nil
    go_simp
    refine hK _ _ ?_
    clear hK K5
    try simp only[sP]
    refine wpAny_done (by kernel_rfl) ?_ _
    go_wp2_with fail
    go_ret
    exact⟨by rw[HX.1];rfl,_,by rw[HX.2];exact HF.1,HF.2⟩
   refine AllReady.cons rfl (fun K5 hK=>?_) AllReady.nil
   go_simp
   refine hK _ _ ?_
   clear hK K5
   try simp only[sP]
   refine wpAny_ready (rs:=[4]) (by kernel_rfl) (by simp) ?_
   refine AllReady.cons rfl (fun K5 hK=>?_) AllReady.nil
   go_simp
   refine hK _ _ ?_
   clear hK K5
   try simp only[sP]
   refine wpAny_ready (rs:=[15]) (by kernel_rfl) (by simp) ?_
   refine AllReady.cons rfl (fun K5 hK=>?_) AllReady.nil
   go_simp
   refine(HINS w.drew (Below.refl _ _).drew).mono ?_
   rintro e w4 ⟨g',c',cur',rfl,hR4,hc4,hch4,hg4⟩
   go_wp2_with fail
   have FIN:=HFIN.out w4 g' c' cur' (.inr ((Chg.of (t2 (Below.refl _ _).drew (aB _ _))).trans hch4)) hR4 hc4 (by rcases hg4 with e | e;exact .inl e;exact .inr (Nat.le_trans (t2 (Below.refl _ _).drew (aB _ _)).size e))
   obtain⟨f7,z7,K',wd',mv'⟩:=FIN
   have HF:Hid (Wd w0 (w4.setCell (K.wb,7) (.slice (some (g',0)) (x.fl.length+1) c')) K' {x with fl:=x.fl.insertIdx (i+1) tt} t/\Mv K K' w (w4.setCell (K.wb,7) (.slice (some (g',0)) (x.fl.length+1) c'))):=⟨wd',mv'⟩
   clear wd' mv' hR4 hc4 hch4 hg4
   try simp only[sP]
   refine wpAny_take (i:=16) (v:=?_) rfl (by kernel_rfl) (by kernel_rfl) (by kernel_rfl) (fun _ _ _ h=>h) (Or.inl ⟨by rfl,?_⟩) ?_
   rotate_left
   ·intro w9;go_simp;try (with_reducible rfl)
   simp only[sP]
   refine wpAny_take (i:=17) (v:=?_) rfl (by kernel_rfl) (by kernel_rfl) (by kernel_rfl) (fun _ _ _ h=>h) (Or.inl ⟨by rfl,?_⟩) ?_
   rotate_left
   ·intro w9;go_simp;try (with_reducible rfl)
   simp only[sP]
   refine wpAny_ready (rs:=[18]) (by kernel_rfl) (by simp) ?_
   refine AllReady.cons rfl (fun K5 hK=>?_) AllReady.nil
   go_simp
   refine hK _ _ ?_
   clear hK K5
   try simp only[sP]
   refine wpAny_done (by kernel_rfl) ?_ _
   go_wp2_with fail
   go_ret
   exact⟨by rw[HX.1];rfl,_,by rw[HX.2];exact HF.1,HF.2⟩
 ·have HX:Hid (x.twE n=4/\x.twiced n=x):=by
   have e0:x.flE n=4:=by unfold Wo.flE;rw[if_neg h2]
   have e:x.twE n=4:=by unfold Wo.twE;rw[if_neg (by rw[e0];decide),e0]
   exact⟨e,by unfold Wo.twiced;rw[if_neg (by rw[e];decide)]⟩
  rw[decide_eq_false h2]
  have g3:=HSW.c3
  go_wp2_with fail
  go_ret
  exact⟨by rw[HX.1];rfl,K,by rw[HX.2];exact HW,Mv.of (Below.refl _ _)⟩
def Fin (w0:World) (wb:Nat) (Y:Nat->Option Obj) (B N b M pb:Nat) (s:Nat->Addr) (r:(ByteArray×Nat)×Wo) (t:Nat) (e:Ending) (w':World):Prop:=e=.returned (.tuple #[.string r.1.1,terr s r.1.2])/\Pw w0 w' wb Y B N b M pb r.2 t
structure Bgn (w0 w:World) (wb:Nat) (Y:Nat->Option Obj) (B N b M pb t q:Nat) (s:Nat->Addr) (W:Wo) (k:Nat) (n m:Int) (p:Pk):Prop where
 E:Env w0 s
 h:Pw w0 w wb Y B N b M pb W t
 O:Okw q W
 hq:q+cst k m<=250000
 ht:t+cst k m<=190000
 m0:0<=m
 m1:m<=100000
 p6:In6 p.pr
theorem terr_err (s:Nat->Addr) (e:Nat):errV s e=terr s e:=by cases e <;> rfl
section
variable {w0 w:World} {Y:Nat->Option Obj} {wb B N b M pb t q x y:Nat} {s:Nat->Addr} {W:Wo} {n m:Int} {p:Pk}
theorem run0 (h:Bgn w0 w wb Y B N b M pb t q s W 0 n m p) (cx:w.cell? ⟨x,0,none⟩=some (.func (.func 50) #[.pointer (some ⟨b,0,none⟩)] #[])) :
  Calls Tryz.prog 102 #[argV n m p,.pointer (some ⟨x,0,none⟩)] w (Fin w0 wb Y B N b M pb s (doR 0 n m p W) (t+cst 0 m)):=by
 obtain⟨K,wd,pl,yk,rfl⟩:=h.h.below (aB w (argB n m p))
 have e0:((m.toNat:Nat):Int)=m:=Int.toNat_of_nonneg h.m0
 refine(do_tick n m p (R:=fun r w'=>r=terr s (wt n m.toNat W).1/\Pw w0 w' K.wb Y B N b M pb (wt n m.toNat W).2 (t+m.toNat)) cx ?_).mono ?_
 ·have c:=ticks_any h.E.s.m wd pl h.O.i m.toNat h.hq h.ht n
  rw[e0]at c
  refine c.mono ?_
  rintro e w' ⟨rfl,K',wd',mv,pl'⟩
  exact⟨_,rfl,rfl,Pw.mk pl yk wd' mv⟩
 ·rintro e w' ⟨r,rfl,rfl,hp⟩
  exact⟨rfl,hp⟩
theorem run1 (h:Bgn w0 w wb Y B N b M pb t q s W 1 n m p) (cx:w.cell? ⟨x,0,none⟩=some (.func (.func 51) #[.pointer (some ⟨wb,0,none⟩)] #[])) :
  Calls Tryz.prog 102 #[argV n m p,.pointer (some ⟨x,0,none⟩)] w (Fin w0 wb Y B N b M pb s (doR 1 n m p W) (t+cst 1 m)):=by
 obtain⟨K,wd,pl,yk,rfl⟩:=h.h.below (aB w (argB n m p))
 refine(do_cut n m p (R:=fun r w'=>r=terr s (W.ctE n m)/\Pw w0 w' K.wb Y B N b M pb (W.cutted n m) t) cx ?_).mono ?_
 ·refine(cut_wd h.E.s.m wd n m (by have:=h.m1;omega)).mono ?_
  rintro e w' ⟨rfl,wd',mv⟩
  exact⟨_,rfl,rfl,Pw.mk pl yk wd' mv⟩
 ·rintro e w' ⟨r,rfl,rfl,hp⟩
  exact⟨rfl,hp.mono (by omega)⟩
theorem run2 (h:Bgn w0 w wb Y B N b M pb t q s W 2 n m p) (cx:w.cell? ⟨x,0,none⟩=some (.func (.func 53) #[.pointer (some ⟨wb,0,none⟩)] #[])) :
  Calls Tryz.prog 106 #[argV n m p,.pointer (some ⟨x,0,none⟩)] w (Fin w0 wb Y B N b M pb s (doR 2 n m p W) (t+cst 2 m)):=by
 refine(do_go n m p (R:=fun r w'=>r=terr s (W.flE m)/\Pw w0 w' wb Y B N b M pb (W.dlv m) t) cx ?_).mono ?_
 ·refine((h.h.below (aB w (argB n m p))).dlv h.E.s.m m).mono ?_
  rintro e w' ⟨rfl,hp⟩
  exact⟨_,rfl,rfl,hp⟩
 ·rintro e w' ⟨r,rfl,rfl,hp⟩
  exact⟨rfl,hp.mono (by omega)⟩
theorem run3 (h:Bgn w0 w wb Y B N b M pb t q s W 3 n m p) (cx:w.cell? ⟨x,0,none⟩=some (.func (.func 54) #[.pointer (some ⟨wb,0,none⟩)] #[])) :
  Calls Tryz.prog 106 #[argV n m p,.pointer (some ⟨x,0,none⟩)] w (Fin w0 wb Y B N b M pb s (doR 3 n m p W) (t+cst 3 m)):=by
 obtain⟨K,wd,pl,yk,rfl⟩:=h.h.below (aB w (argB n m p))
 refine(do_lose n m p (R:=fun r w'=>r=terr s (W.flE m)/\Pw w0 w' K.wb Y B N b M pb (W.dropped m) t) cx ?_).mono ?_
 ·refine(drop_wd h.E.s.m wd m).mono ?_
  rintro e w' ⟨rfl,K',wd',mv⟩
  exact⟨_,rfl,rfl,Pw.mk pl yk wd' mv⟩
 ·rintro e w' ⟨r,rfl,rfl,hp⟩
  exact⟨rfl,hp.mono (by omega)⟩
theorem run4 (h:Bgn w0 w wb Y B N b M pb t q s W 4 n m p) (cx:w.cell? ⟨x,0,none⟩=some (.func (.func 55) #[.pointer (some ⟨wb,0,none⟩)] #[])) :
  Calls Tryz.prog 106 #[argV n m p,.pointer (some ⟨x,0,none⟩)] w (Fin w0 wb Y B N b M pb s (doR 4 n m p W) (t+cst 4 m)):=by
 obtain⟨K,wd,pl,yk,rfl⟩:=h.h.below (aB w (argB n m p))
 refine(do_twice n m p (R:=fun r w'=>r=terr s (W.twE m)/\Pw w0 w' K.wb Y B N b M pb (W.twiced m) t) cx ?_).mono ?_
 ·refine(twice_wd h.E.s.m wd m).mono ?_
  rintro e w' ⟨rfl,K',wd',mv⟩
  exact⟨_,rfl,rfl,Pw.mk pl yk wd' mv⟩
 ·rintro e w' ⟨r,rfl,rfl,hp⟩
  exact⟨rfl,hp.mono (by omega)⟩
theorem run5 (h:Bgn w0 w wb Y B N b M pb t q s W 5 n m p) (cx:w.cell? ⟨x,0,none⟩=some (.func (.func 57) #[.pointer (some ⟨wb,0,none⟩)] #[])) :
  Calls Tryz.prog 112 #[argV n m p,.pointer (some ⟨x,0,none⟩)] w (Fin w0 wb Y B N b M pb s (doR 5 n m p W) (t+cst 5 m)):=by
 obtain⟨K,wd,pl,yk,rfl⟩:=h.h.below (aB w (argB n m p))
 refine(do_down n m p (R:=fun r w'=>r=terr s (W.upE n)/\Pw w0 w' K.wb Y B N b M pb (W.downed n) t) cx ?_).mono ?_
 ·refine(down_wd h.E.s.m wd n).mono ?_
  rintro e w' ⟨rfl,K',wd',mv⟩
  exact⟨_,rfl,rfl,Pw.mk pl yk wd' mv⟩
 ·rintro e w' ⟨r,rfl,rfl,hp⟩
  exact⟨rfl,hp.mono (by omega)⟩
theorem run6 (h:Bgn w0 w wb Y B N b M pb t q s W 6 n m p) (cx:w.cell? ⟨x,0,none⟩=some (.func (.func 48) #[.pointer (some ⟨wb,0,none⟩)] #[])) :
  Calls Tryz.prog 112 #[argV n m p,.pointer (some ⟨x,0,none⟩)] w (Fin w0 wb Y B N b M pb s (doR 6 n m p W) (t+cst 6 m)):=by
 obtain⟨K,wd,pl,yk,rfl⟩:=h.h.below (aB w (argB n m p))
 refine(do_up n m p (R:=fun r w'=>r=terr s (W.roE n)/\Pw w0 w' K.wb Y B N b M pb (W.upped n) t) cx ?_).mono ?_
 ·refine(rup_wd h.E.s.m wd n (fun i _ hi hn=>by
   obtain⟨g,hg⟩:=yk.1 i hi
   exact⟨g,hg,(h.O.i.dn i hi hn).newOk (by have:=h.hq;omega) hi h.O.r⟩)).mono ?_
  rintro e w' ⟨rfl,K',wd',mv⟩
  exact⟨_,rfl,rfl,Pw.mk pl yk wd' mv⟩
 ·rintro e w' ⟨r,rfl,rfl,hp⟩
  exact⟨rfl,hp.mono (by omega)⟩
theorem pktext_any (E:Env w s) (g:Pk) :
  Calls Tryz.prog 22 #[g.v] w fun e w'=>e=.returned (.tuple #[.string (pkT g).1,terr s (pkT g).2])/\Below w.heap.size w w':=by
 by_cases h:pkErr g.pr g.a1 g.p1 g.a2 g.p2 g.fl=0
 ·have e:pkT g=(⟨(pText g.pr g.a1 g.p1 g.a2 g.p2 g.fl).toArray⟩,0):=if_pos h
  rw[e]
  exact text_ok _ _ _ _ _ _ s w E (pkErr_zero.1 h)
 ·have e:pkT g=(⟨#[]⟩,pkErr g.pr g.a1 g.p1 g.a2 g.p2 g.fl):=if_neg h
  rw[e]
  obtain⟨k,hk⟩:∃k,pkErr g.pr g.a1 g.p1 g.a2 g.p2 g.fl=k+1:=⟨pkErr g.pr g.a1 g.p1 g.a2 g.p2 g.fl - 1,by omega⟩
  show Calls _ _ _ _ fun e w'=>e=.returned (.tuple #[.string ⟨#[]⟩,terr s (pkErr g.pr g.a1 g.p1 g.a2 g.p2 g.fl)])/\_
  rw[hk,<- terr_err]
  exact text_err k _ _ _ _ _ _ s w (fun u S=>by have:=check_any g.pr g.a1 g.p1 g.a2 g.p2 g.fl s u S.sen;rw[hk]at this;exact this) E.s
theorem run7 (h:Bgn w0 w wb Y B N b M pb t q s W 7 n m p) (cx:w.cell? ⟨x,0,none⟩=some (.func (.func 59) #[.pointer (some ⟨wb,0,none⟩)] #[])) :
  Calls Tryz.prog 114 #[argV n m p,.pointer (some ⟨x,0,none⟩)] w (Fin w0 wb Y B N b M pb s (doR 7 n m p W) (t+cst 7 m)):=by
 obtain⟨K,wd,pl,yk,rfl⟩:=h.h.below (aB w (argB n m p))
 have hd:(doR 7 n m p W).1=pkD (W.inE p) (W.inP p):=rfl
 refine(do_inside n m p (RE:=fun r u=>r=terr s (W.inE p)/\W.inE p≠0/\Pw w0 u K.wb Y B N b M pb (W.ins p) (t+1)) (RO:=fun g u=>g=W.inP p/\W.inE p=0/\Pw w0 u K.wb Y B N b M pb (W.ins p) (t+1)) (RT:=fun sx ex u=>sx=(pkT (W.inP p)).1/\ex=terr s (pkT (W.inP p)).2/\W.inE p=0/\Pw w0 u K.wb Y B N b M pb (W.ins p) (t+1)) cx ?_ ?_).mono ?_
 ·refine(inside_wd h.E.s.m wd (by have h1:t+1<=190000:=h.ht;omega) p h.p6).mono ?_
  rintro e w' ⟨rfl,wd',mv⟩
  have hp:=Pw.mk pl yk wd' mv
  cases hc:W.inE p with
  | zero=>exact .inr ⟨_,rfl,rfl,rfl,hp⟩
  | succ c=>exact .inl ⟨_,_,_,rfl,fun u hb=>⟨rfl,by omega,hp.below hb⟩⟩
 ·rintro g u ⟨rfl,he,hp⟩ u2 hb
  have hp2:=hp.below hb
  refine(pktext_any (h.E.below hp2.bl) _).mono ?_
  rintro e w3 ⟨rfl,hb3⟩
  exact⟨_,_,rfl,rfl,rfl,he,hp2.below hb3⟩
 ·rintro e w' (⟨r,rfl,rfl,he,hp⟩ | ⟨sx,ex,rfl,rfl,rfl,he,hp⟩)
  ·refine⟨?_,hp⟩
   rw[hd,show pkD (W.inE p) (W.inP p)=(⟨#[]⟩,W.inE p) from if_neg he]
  ·refine⟨?_,hp⟩
   rw[hd,show pkD (W.inE p) (W.inP p)=pkT (W.inP p) from if_pos he]
theorem run8 (h:Bgn w0 w wb Y B N b M pb t q s W 8 n m p) (cx:w.cell? ⟨x,0,none⟩=some (.func (.func 60) #[.pointer (some ⟨wb,0,none⟩)] #[])) :
  Calls Tryz.prog 114 #[argV n m p,.pointer (some ⟨x,0,none⟩)] w (Fin w0 wb Y B N b M pb s (doR 8 n m p W) (t+cst 8 m)):=by
 obtain⟨K,wd,pl,yk,rfl⟩:=h.h.below (aB w (argB n m p))
 have hd:(doR 8 n m p W).1=pkD (W.otE p) (W.otP p):=rfl
 refine(do_outside n m p (RE:=fun r u=>r=terr s (W.otE p)/\W.otE p≠0/\Pw w0 u K.wb Y B N b M pb (W.ots p) (t+1)) (RO:=fun g u=>g=W.otP p/\W.otE p=0/\Pw w0 u K.wb Y B N b M pb (W.ots p) (t+1)) (RT:=fun sx ex u=>sx=(pkT (W.otP p)).1/\ex=terr s (pkT (W.otP p)).2/\W.otE p=0/\Pw w0 u K.wb Y B N b M pb (W.ots p) (t+1)) cx ?_ ?_).mono ?_
 ·refine(outside_wd h.E.s.m wd (by have h1:t+1<=190000:=h.ht;omega) p).mono ?_
  rintro e w' ⟨rfl,wd',mv⟩
  have hp:=Pw.mk pl yk wd' mv
  cases hc:W.otE p with
  | zero=>exact .inr ⟨_,rfl,rfl,rfl,hp⟩
  | succ c=>exact .inl ⟨_,_,_,rfl,fun u hb=>⟨rfl,by omega,hp.below hb⟩⟩
 ·rintro g u ⟨rfl,he,hp⟩ u2 hb
  have hp2:=hp.below hb
  refine(pktext_any (h.E.below hp2.bl) _).mono ?_
  rintro e w3 ⟨rfl,hb3⟩
  exact⟨_,_,rfl,rfl,rfl,he,hp2.below hb3⟩
 ·rintro e w' (⟨r,rfl,rfl,he,hp⟩ | ⟨sx,ex,rfl,rfl,rfl,he,hp⟩)
  ·refine⟨?_,hp⟩
   rw[hd,show pkD (W.otE p) (W.otP p)=(⟨#[]⟩,W.otE p) from if_neg he]
  ·refine⟨?_,hp⟩
   rw[hd,show pkD (W.otE p) (W.otP p)=pkT (W.otP p) from if_pos he]
theorem run9 (h:Bgn w0 w wb Y B N b M pb t q s W 9 n m p) (cx:w.cell? ⟨x,0,none⟩=some (.func (.func 62) #[] #[.pointer (some ⟨pb,0,none⟩)])) :
  Calls Tryz.prog 118 #[argV n m p,.pointer (some ⟨x,0,none⟩)] w (Fin w0 wb Y B N b M pb s (doR 9 n m p W) (t+cst 9 m)):=by
 refine(do_all n m p (R:=fun sx u=>sx=itT W.fl.length/\Pw w0 u wb Y B N b M pb (dla W.fl.length W) t) cx ?_).mono ?_
 ·refine(all_any h.E.s.m (h.h.below (aB w (argB n m p))) h.E.p).mono ?_
  rintro e w' ⟨rfl,hp⟩
  exact⟨_,rfl,rfl,hp⟩
 ·rintro e w' ⟨sx,rfl,rfl,hp⟩
  exact⟨rfl,hp.mono (by omega)⟩
theorem run10 (h:Bgn w0 w wb Y B N b M pb t q s W 10 n m p) (cx:w.cell? ⟨x,0,none⟩=some (.func (.func 65) #[] #[.pointer (some ⟨pb,0,none⟩)])) :
  Calls Tryz.prog 118 #[argV n m p,.pointer (some ⟨x,0,none⟩)] w (Fin w0 wb Y B N b M pb s (doR 10 n m p W) (t+cst 10 m)):=by
 have hp:=h.h.below (aB w (argB n m p))
 refine(do_fly n m p (R:=fun sx u=>sx=itT W.fl.length/\Pw w0 u wb Y B N b M pb W t) cx ?_).mono ?_
 ·obtain⟨K,wd,pl,yk,rfl⟩:=id hp
  refine(fly_any wd pl (h.E.p.below hp.bl)).mono ?_
  rintro e w' ⟨rfl,hb⟩
  exact⟨_,rfl,rfl,hp.below hb⟩
 ·rintro e w' ⟨sx,rfl,rfl,hp⟩
  exact⟨rfl,hp.mono (by omega)⟩
theorem run11 (h:Bgn w0 w wb Y B N b M pb t q s W 11 n m p) (cx:w.cell? ⟨x,0,none⟩=some (.func (.func 67) #[.pointer (some ⟨b,0,none⟩)] #[])) :
  Calls Tryz.prog 118 #[argV n m p,.pointer (some ⟨x,0,none⟩)] w (Fin w0 wb Y B N b M pb s (doR 11 n m p W) (t+cst 11 m)):=by
 have hp:=h.h.below (aB w (argB n m p))
 refine(do_switch n m p (R:=fun sx u=>sx=swT W/\Pw w0 u wb Y B N b M pb W t) cx ?_).mono ?_
 ·obtain⟨K,wd,pl,yk,rfl⟩:=id hp
  refine(switchText_any wd pl (h.E.p.below hp.bl) (fun hz=>?_)).mono ?_
  ·have s1:=h.O.s.s
   have q1:q+1<=250000:=h.hq
   exact⟨s1.1,by omega,by omega⟩
  ·rintro e w' ⟨rfl,hb⟩
   exact⟨_,rfl,rfl,hp.below hb⟩
 ·rintro e w' ⟨sx,rfl,rfl,hp⟩
  exact⟨rfl,hp.mono (by omega)⟩
theorem run12 (h:Bgn w0 w wb Y B N b M pb t q s W 12 n m p) (cx:w.cell? ⟨x,0,none⟩=some (.func (.func 68) #[.pointer (some ⟨b,0,none⟩)] #[])) :
  Calls Tryz.prog 118 #[argV n m p,.pointer (some ⟨x,0,none⟩)] w (Fin w0 wb Y B N b M pb s (doR 12 n m p W) (t+cst 12 m)):=by
 have hp:=h.h.below (aB w (argB n m p))
 refine(do_events n m p (R:=fun sx u=>sx=evT W/\Pw w0 u wb Y B N b M pb W t) cx ?_).mono ?_
 ·refine(eventsText_any hp (h.E.p.below hp.bl) h.O.s (by have:=h.hq;omega)).mono ?_
  rintro e w' ⟨rfl,hb⟩
  exact⟨_,rfl,rfl,hp.below hb⟩
 ·rintro e w' ⟨sx,rfl,rfl,hp⟩
  exact⟨rfl,hp.mono (by omega)⟩
theorem run13 (h:Bgn w0 w wb Y B N b M pb t q s W 13 n m p) :
  Calls Tryz.prog 69 #[argV n m p,.pointer (some ⟨pb,0,none⟩)] w (Fin w0 wb Y B N b M pb s (doR 13 n m p W) (t+cst 13 m)):=by
 have hp:=h.h.below (aB w (argB n m p))
 have c0:=h.h.pc
 have c1:pb < w.heap.size:=tlt c0
 have HS:Hid (SeM w0 s):=h.E.s.m
 have HP:Hid (Pw w0 (w.alloc (argB n m p)) wb Y B N b M pb W t):=hp
 clear h hp
 unfold argV
 unfold argB at HP
 go_enter Tryz.func69,Tryz.ntmps69
 go_wp2_with fail
 refine(activeText_any HS.out HP.out n).mono ?_
 rintro e w2 ⟨rfl,b2⟩
 have H2:Hid (Pw w0 w2 wb Y B N b M pb W t):=HP.out.below b2
 clear b2 HP
 go_wp2_with fail
 exact bodyPost_ret (v:=.tuple #[.string (acT W n),.nilIface]) (by simp[results,Tryz.results69,go_sem]) rfl ⟨rfl,H2.out.mono (by omega)⟩
theorem node_sh (h:Pw w0 w wb Y B N b M pb W t) (S:SeM w0 s) :
  Calls Tryz.prog 72 #[.pointer (some ⟨wb,0,none⟩),.int .i64 n] w fun e w'=>(∃(v:Value) (a:TypeId) (c:Value),e=.returned (.tuple #[v,.iface a c])/\.iface a c=terr s (W.upE n)/\W.upE n≠0/\Pw w0 w' wb Y B N b M pb W t)\/(∃g:Addr,e=.returned (.tuple #[.pointer (some g),.nilIface])/\∃y k a c,W.upE n=0/\W.nd n.toNat=some y/\g=⟨k.nd,0,none⟩/\Nd w0 w' k y a c/\Pw w0 w' wb Y B N b M pb W t/\Below w.heap.size w w'):=by
 obtain⟨K,wd,pl,yk,rfl⟩:=id h
 refine(node_wd S wd n).mono ?_
 rintro e w2 ⟨⟨i,y,k,rfl,hi,hy,hk,rfl⟩ | ⟨e1,he,rfl⟩,b2⟩
 ·obtain⟨k',m',n',hk',nd,_⟩:=(wd.below b2).up hi hy
  have ek:k'=k:=Option.some.inj (hk'.symm.trans hk)
  subst ek
  have hup:W.upE (i:Int)=0:=by unfold Wo.upE;rw[if_pos (by omega),Int.toNat_natCast,hy];rfl
  exact .inr ⟨_,rfl,y,k',m',n',hup,by rw[Int.toNat_natCast];exact hy,rfl,nd,h.below b2,b2⟩
 ·exact .inl ⟨_,_,_,rfl,by rw[he];rfl,by omega,h.below b2⟩
theorem run14 (h:Bgn w0 w wb Y B N b M pb t q s W 14 n m p) (cx:w.cell? ⟨x,0,none⟩=some (.func (.func 72) #[.pointer (some ⟨wb,0,none⟩)] #[])) (cy:w.cell? ⟨y,0,none⟩=some (.func (.func 73) #[] #[])) :
  Calls Tryz.prog 124 #[argV n m p,.pointer (some ⟨x,0,none⟩),.pointer (some ⟨y,0,none⟩)] w (Fin w0 wb Y B N b M pb s (doR 14 n m p W) (t+cst 14 m)):=by
 have hp:=h.h.below (aB w (argB n m p))
 have hd:(doR 14 n m p W).1=shD W n (fun z=>((flL z.T 32).length:Int)):=rfl
 refine(do_flows n m p (RE:=fun r u=>r=terr s (W.upE n)/\W.upE n≠0/\Pw w0 u wb Y B N b M pb W t) (RO:=fun g u=>∃z k a c,W.upE n=0/\W.nd n.toNat=some z/\g=⟨k.nd,0,none⟩/\Nd w0 u k z a c/\Pw w0 u wb Y B N b M pb W t/\Below w.heap.size w u) (RT:=fun sx u=>W.upE n=0/\(∃z,W.nd n.toNat=some z/\sx=itT (((flL z.T 32).length:Int)))/\Pw w0 u wb Y B N b M pb W t) cx ?_ ?_ ?_).mono ?_
 ·refine(node_sh hp h.E.s.m).mono ?_
  rintro e w' (⟨v,a,c,rfl,h1,h2,h3⟩ | ⟨g,rfl,z,k,a,c,h1,h2,h3,h4,h5,h6⟩)
  ·exact .inl ⟨v,a,c,rfl,h1,h2,h3⟩
  ·exact .inr ⟨g,rfl,z,k,a,c,h1,h2,h3,h4,h5,t2 (aB _ _) h6⟩
 ·rintro g u ⟨z,k,a,c,hup,hz,rfl,nd,hp2,hb⟩
  refine(of_flows nd).mono ?_
  rintro e u2 ⟨rfl,b2⟩
  have hp3:=hp2.below b2
  exact⟨_,rfl,(by have:=flL_len z.T 32;omega),(by have:=flL_len z.T 32;omega),h.E.p.below hp3.bl,fun u3 b3=>⟨hup,⟨z,hz,rfl⟩,hp3.below b3⟩⟩
 ·rintro g u ⟨z,k,a,c,hup,hz,rfl,nd,hp2,hb⟩
  exact tk hb cy
 ·rintro e w' (⟨r,rfl,rfl,he,hp⟩ | ⟨sx,rfl,he,⟨z,hz,rfl⟩,hp⟩)
  ·refine⟨?_,hp.mono (by omega)⟩
   rw[hd]
   unfold shD
   rw[if_neg he]
  ·refine⟨?_,hp.mono (by omega)⟩
   rw[hd]
   unfold shD
   rw[if_pos he,hz]
   rfl
theorem run15 (h:Bgn w0 w wb Y B N b M pb t q s W 15 n m p) (cx:w.cell? ⟨x,0,none⟩=some (.func (.func 72) #[.pointer (some ⟨wb,0,none⟩)] #[])) (cy:w.cell? ⟨y,0,none⟩=some (.func (.func 76) #[] #[])) :
  Calls Tryz.prog 124 #[argV n m p,.pointer (some ⟨x,0,none⟩),.pointer (some ⟨y,0,none⟩)] w (Fin w0 wb Y B N b M pb s (doR 15 n m p W) (t+cst 15 m)):=by
 have hp:=h.h.below (aB w (argB n m p))
 have hd:(doR 15 n m p W).1=shD W n (fun z=>((flL z.mt 32).length:Int)):=rfl
 refine(do_mirror n m p (RE:=fun r u=>r=terr s (W.upE n)/\W.upE n≠0/\Pw w0 u wb Y B N b M pb W t) (RO:=fun g u=>∃z k a c,W.upE n=0/\W.nd n.toNat=some z/\g=⟨k.nd,0,none⟩/\Nd w0 u k z a c/\Pw w0 u wb Y B N b M pb W t/\Below w.heap.size w u) (RT:=fun sx u=>W.upE n=0/\(∃z,W.nd n.toNat=some z/\sx=itT (((flL z.mt 32).length:Int)))/\Pw w0 u wb Y B N b M pb W t) cx ?_ ?_ ?_).mono ?_
 ·refine(node_sh hp h.E.s.m).mono ?_
  rintro e w' (⟨v,a,c,rfl,h1,h2,h3⟩ | ⟨g,rfl,z,k,a,c,h1,h2,h3,h4,h5,h6⟩)
  ·exact .inl ⟨v,a,c,rfl,h1,h2,h3⟩
  ·exact .inr ⟨g,rfl,z,k,a,c,h1,h2,h3,h4,h5,t2 (aB _ _) h6⟩
 ·rintro g u ⟨z,k,a,c,hup,hz,rfl,nd,hp2,hb⟩
  refine(of_mirror nd).mono ?_
  rintro e u2 ⟨rfl,b2⟩
  have hp3:=hp2.below b2
  exact⟨_,rfl,(by have:=flL_len z.mt 32;omega),(by have:=flL_len z.mt 32;omega),h.E.p.below hp3.bl,fun u3 b3=>⟨hup,⟨z,hz,rfl⟩,hp3.below b3⟩⟩
 ·rintro g u ⟨z,k,a,c,hup,hz,rfl,nd,hp2,hb⟩
  exact tk hb cy
 ·rintro e w' (⟨r,rfl,rfl,he,hp⟩ | ⟨sx,rfl,he,⟨z,hz,rfl⟩,hp⟩)
  ·refine⟨?_,hp.mono (by omega)⟩
   rw[hd]
   unfold shD
   rw[if_neg he]
  ·refine⟨?_,hp.mono (by omega)⟩
   rw[hd]
   unfold shD
   rw[if_pos he,hz]
   rfl
theorem run16 (h:Bgn w0 w wb Y B N b M pb t q s W 16 n m p) (cx:w.cell? ⟨x,0,none⟩=some (.func (.func 72) #[.pointer (some ⟨wb,0,none⟩)] #[])) (cy:w.cell? ⟨y,0,none⟩=some (.func (.func 78) #[] #[])) :
  Calls Tryz.prog 124 #[argV n m p,.pointer (some ⟨x,0,none⟩),.pointer (some ⟨y,0,none⟩)] w (Fin w0 wb Y B N b M pb s (doR 16 n m p W) (t+cst 16 m)):=by
 have hp:=h.h.below (aB w (argB n m p))
 have hd:(doR 16 n m p W).1=shD W n (fun z=>z.ro.ep):=rfl
 refine(do_epoch n m p (RE:=fun r u=>r=terr s (W.upE n)/\W.upE n≠0/\Pw w0 u wb Y B N b M pb W t) (RO:=fun g u=>∃z k a c,W.upE n=0/\W.nd n.toNat=some z/\g=⟨k.nd,0,none⟩/\Nd w0 u k z a c/\Pw w0 u wb Y B N b M pb W t/\Below w.heap.size w u) (RT:=fun sx u=>W.upE n=0/\(∃z,W.nd n.toNat=some z/\sx=itT (z.ro.ep))/\Pw w0 u wb Y B N b M pb W t) cx ?_ ?_ ?_).mono ?_
 ·refine(node_sh hp h.E.s.m).mono ?_
  rintro e w' (⟨v,a,c,rfl,h1,h2,h3⟩ | ⟨g,rfl,z,k,a,c,h1,h2,h3,h4,h5,h6⟩)
  ·exact .inl ⟨v,a,c,rfl,h1,h2,h3⟩
  ·exact .inr ⟨g,rfl,z,k,a,c,h1,h2,h3,h4,h5,t2 (aB _ _) h6⟩
 ·rintro g u ⟨z,k,a,c,hup,hz,rfl,nd,hp2,hb⟩
  refine(of_epoch nd).mono ?_
  rintro e u2 ⟨rfl,hw⟩
  obtain rfl:=hw.symm
  have hp3:=hp2
  exact⟨_,rfl,(by have h1:=(h.O.i.up _ _ hz).ep0;have h2:=(h.O.i.up _ _ hz).eq;have:=h.hq;omega),(by have h1:=(h.O.i.up _ _ hz).ep0;have h2:=(h.O.i.up _ _ hz).eq;have:=h.hq;omega),h.E.p.below hp3.bl,fun u3 b3=>⟨hup,⟨z,hz,rfl⟩,hp3.below b3⟩⟩
 ·rintro g u ⟨z,k,a,c,hup,hz,rfl,nd,hp2,hb⟩
  exact tk hb cy
 ·rintro e w' (⟨r,rfl,rfl,he,hp⟩ | ⟨sx,rfl,he,⟨z,hz,rfl⟩,hp⟩)
  ·refine⟨?_,hp.mono (by omega)⟩
   rw[hd]
   unfold shD
   rw[if_neg he]
  ·refine⟨?_,hp.mono (by omega)⟩
   rw[hd]
   unfold shD
   rw[if_pos he,hz]
   rfl
theorem run17 (h:Bgn w0 w wb Y B N b M pb t q s W 17 n m p) (cx:w.cell? ⟨x,0,none⟩=some (.func (.func 72) #[.pointer (some ⟨wb,0,none⟩)] #[])) (cy:w.cell? ⟨y,0,none⟩=some (.func (.func 80) #[] #[])) :
  Calls Tryz.prog 124 #[argV n m p,.pointer (some ⟨x,0,none⟩),.pointer (some ⟨y,0,none⟩)] w (Fin w0 wb Y B N b M pb s (doR 17 n m p W) (t+cst 17 m)):=by
 have hp:=h.h.below (aB w (argB n m p))
 have hd:(doR 17 n m p W).1=shD W n (fun z=>z.life):=rfl
 refine(do_life n m p (RE:=fun r u=>r=terr s (W.upE n)/\W.upE n≠0/\Pw w0 u wb Y B N b M pb W t) (RO:=fun g u=>∃z k a c,W.upE n=0/\W.nd n.toNat=some z/\g=⟨k.nd,0,none⟩/\Nd w0 u k z a c/\Pw w0 u wb Y B N b M pb W t/\Below w.heap.size w u) (RT:=fun sx u=>W.upE n=0/\(∃z,W.nd n.toNat=some z/\sx=itT (z.life))/\Pw w0 u wb Y B N b M pb W t) cx ?_ ?_ ?_).mono ?_
 ·refine(node_sh hp h.E.s.m).mono ?_
  rintro e w' (⟨v,a,c,rfl,h1,h2,h3⟩ | ⟨g,rfl,z,k,a,c,h1,h2,h3,h4,h5,h6⟩)
  ·exact .inl ⟨v,a,c,rfl,h1,h2,h3⟩
  ·exact .inr ⟨g,rfl,z,k,a,c,h1,h2,h3,h4,h5,t2 (aB _ _) h6⟩
 ·rintro g u ⟨z,k,a,c,hup,hz,rfl,nd,hp2,hb⟩
  refine(of_life nd).mono ?_
  rintro e u2 ⟨rfl,hw⟩
  obtain rfl:=hw.symm
  have hp3:=hp2
  exact⟨_,rfl,(by have h1:=(h.O.i.up _ _ hz).li;have h2:=(h.O.i.up _ _ hz).y.l;have:=h.hq;omega),(by have h1:=(h.O.i.up _ _ hz).li;have h2:=(h.O.i.up _ _ hz).y.l;have:=h.hq;omega),h.E.p.below hp3.bl,fun u3 b3=>⟨hup,⟨z,hz,rfl⟩,hp3.below b3⟩⟩
 ·rintro g u ⟨z,k,a,c,hup,hz,rfl,nd,hp2,hb⟩
  exact tk hb cy
 ·rintro e w' (⟨r,rfl,rfl,he,hp⟩ | ⟨sx,rfl,he,⟨z,hz,rfl⟩,hp⟩)
  ·refine⟨?_,hp.mono (by omega)⟩
   rw[hd]
   unfold shD
   rw[if_neg he]
  ·refine⟨?_,hp.mono (by omega)⟩
   rw[hd]
   unfold shD
   rw[if_pos he,hz]
   rfl
end
end Go.Proofs.YtabndgfdbdjdgaaGreatDoor
