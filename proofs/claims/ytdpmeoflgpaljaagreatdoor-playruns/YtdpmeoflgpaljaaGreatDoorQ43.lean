/-
  What the claimed theorem reaches, part Q43.
-/
import Derived.Test.YtdpmeoflgpaljaaGreatDoorQ42
import Derived.Test.YtdpmeoflgpaljaaGreatDoorQ00
import Derived.Test.YtdpmeoflgpaljaaGreatDoorQ22
import Derived.Test.YtdpmeoflgpaljaaGreatDoorQ40
import Derived.Test.YtdpmeoflgpaljaaGreatDoorQ41
import Derived.Test.YtdpmeoflgpaljaaGreatDoorQ26
import Derived.Test.YtdpmeoflgpaljaaGreatDoorQ27
import Derived.Test.YtdpmeoflgpaljaaGreatDoorQ23
import Derived.Test.YtdpmeoflgpaljaaGreatDoorQ21
import Derived.Test.YtdpmeoflgpaljaaGreatDoorQ07
import Derived.Deep.RegionHeld3
namespace Go.Proofs.YtdpmeoflgpaljaaGreatDoor
open Go.RowKit
set_option maxRecDepth 100000
set_option maxHeartbeats 8000000
theorem dcarry_out {w0 w:World} {D:RK} {W:Wo} {u:Nat} (h:RWd w0 w D W u) (hs:SwOk W) (hu:u<=100000) (p:Pk) :
  Calls Tryz.prog 70 #[.pointer (some (D.wb,0)),p.v,.bool false] w fun e w'=>e=.returned (.tuple #[(W.otP p).v,.int .i64 (W.otE p:Nat)])/\RWd w0 w' D (W.ots p) (u+1)/\RMv D D w w':=by
 have HW:Hid (RWd w0 w D W u):=h
 have HS:Hid (SwOk W/\u<=100000):=⟨hs,hu⟩
 clear h hs hu
 go_enter Tryz.func70,Tryz.ntmps70
 go_wp2_with fail
 have P1:Hid (PkZ ((w.alloc (.cells #[p.pr,p.a1,p.p1,p.a2,p.p2,p.fl] 144)).alloc (.cells #[.int .i64 0,.int .i64 0,.int .i64 0,.int .i64 0,.int .i64 0,.int .i64 0] 144)) w p):=(PkZ.new w p).below (aB _ _)
 have B1:Hid (Below w w ((w.alloc (.cells #[p.pr,p.a1,p.p1,p.a2,p.p2,p.fl] 144)).alloc (.cells #[.int .i64 0,.int .i64 0,.int .i64 0,.int .i64 0,.int .i64 0,.int .i64 0] 144))):=t2 (aB _ _) (aB _ _)
 have Z1:Hid (PkZ ((w.alloc (.cells #[p.pr,p.a1,p.p1,p.a2,p.p2,p.fl] 144)).alloc (.cells #[.int .i64 0,.int .i64 0,.int .i64 0,.int .i64 0,.int .i64 0,.int .i64 0] 144)) (w.heap.size+1) noP):=by
  have:=PkZ.zero (w.alloc (.cells #[p.pr,p.a1,p.p1,p.a2,p.p2,p.fl] 144))
  show PkZ _ _ _
  simpa using this
 generalize (w.alloc (.cells #[p.pr,p.a1,p.p1,p.a2,p.p2,p.fl] 144)).alloc (.cells #[.int .i64 0,.int .i64 0,.int .i64 0,.int .i64 0,.int .i64 0,.int .i64 0] 144)=w1 at *
 have LQ:Hid (D.tag (w.heap.size+1)=9):=HW.al _ (Nat.le_succ _)
 generalize hPe:w.heap.size=P at P1 Z1 LQ ⊢
 generalize hQe:P+1=Q at Z1 LQ ⊢
 have W1:Hid (RWd w0 w1 D W u):=HW.below B1
 have HL0:Hid (w0.heap.size<=Q/\w.heap.size<=Q):=⟨by have:=HW.bl.size;omega,by omega⟩
 clear hPe hQe
 refine(dhand_any W1 HS.1).mono ?_
 rintro e w2 ⟨rfl,b2⟩
 have B2:Hid (Below w w w2):=t2 B1 b2
 have W2:Hid (RWd w0 w2 D W u):=W1.below b2
 have P2:Hid (PkZ w2 P p):=P1.below b2
 have Z2:Hid (PkZ w2 Q noP):=Z1.below b2
 clear b2 B1 W1 P1 Z1
 rcases cho_cases HS.1 with⟨i,x,hc,he,hto,hi,hx⟩ | ⟨e1,hc,he⟩
 ·have HX:Hid (W.otE p=x.otE p/\W.otP p=x.otP p/\W.ots p={W with nd:=setN W.nd i (some (x.ots p))}):=⟨by unfold Wo.otE;rw[hc],by unfold Wo.otP;rw[hc],by unfold Wo.ots;rw[hc]⟩
  obtain⟨r,q,hk,nd,ey,q0,q1,qi,ht⟩:=W2.up hi hx
  have HKQ:Hid (¬Q ∈ r.all):=fun hm=>by have:=ht Q hm;have:=LQ.out;omega
  have HC:Hid (∀v,Below w2 w2 v->Calls Tryz.prog 115 #[.pointer (some (r.nd,0)),p.v] v fun e w'=>e=.returned (.tuple #[(x.otP p).v,.int .i64 (x.otE p:Nat)])/\RWd w0 w' D (W.ots p) (u+1)/\RMv D D w w'/\PkZ w' Q noP):=fun v hv =>
   (routside_rn (nd.below hv) (by have:=HS.2;omega) q0 (by have:=HS.2;omega) p).mono fun e w' ⟨he,n2,c2⟩=>by
    have s:=ots_nowW x p
    have k:=(W2.below hv).onNds hi hk hx n2.next c2 (Nat.le_succ u) (by rw[s.1];exact q0) (by rw[s.1];omega) (s.2.trans qi)
    exact⟨he,by rw[HX.2.2];exact k.1,((RMv.of B2.out).then hv).trans k.2,(Z2.below hv).chgL c2 HKQ⟩
  have c0:w2.cell? (D.wb,0)=some (.slice (some (D.nb,0)) 2 D.nc):=(W2.wb.c 0).trans rfl
  have c4:w2.cell? (D.wb,4)=some (.int .i64 (i:Int)):=by rw[<- hto];exact(W2.wb.c 4).trans rfl
  have cn:=W2.nvU hi hk
  have n2:(0:Int)<=(i:Int):=by omega
  have n3:(i:Int) < 2:=by omega
  have pb:=P2.b
  obtain⟨p0,p1,p2,p3,p4,p5⟩:=pb
  rw[he]
  clear he hx hk nd ey hi q0 q1 qi ht hc hto HKQ
  simp only[Pk.v]at HC
  go_wp2_with fail
  go_region_with (first
   | (go_at_call 115;refine(HC _ (by first | exact Below.refl _ _ | exact(Below.refl _ _).drew | exact(Below.refl _ _).drew.drew)).mono ?_;rintro e w3 ⟨rfl,hw3,hm3,hz3⟩;have W3:Hid (RWd w0 w3 D (W.ots p) (u+1)):=hw3;have M3:Hid (RMv D D w w3):=hm3;have Z3:Hid (PkZ w3 Q noP):=hz3;clear hw3 hm3;have z:=hz3.b;have f:=hz3.fr;obtain⟨z0,z1,z2,z3,z4,z5⟩:=z;clear hz3))
  all_goals go_wp2_with fail
  all_goals
   have qz:=(pkz_putW Z3 (x.otP p)).b
   obtain⟨q0,q1,q2,q3,q4,q5⟩:=qz
   have W6:Hid (RWd w0 _ D (W.ots p) (u+1)):=W3.fresh LQ HL0.1 (set6_chgW w3 Q (.int .i64 (x.otP p).pr) (.int .i64 (x.otP p).a1) (.int .i64 (x.otP p).p1) (.int .i64 (x.otP p).a2) (.int .i64 (x.otP p).p2) (.int .i64 (x.otP p).fl))
   have M6:Hid (RMv D D w _):=M3.loc (set6_chgW w3 Q (.int .i64 (x.otP p).pr) (.int .i64 (x.otP p).a1) (.int .i64 (x.otP p).p1) (.int .i64 (x.otP p).a2) (.int .i64 (x.otP p).p2) (.int .i64 (x.otP p).fl)) HL0.2
   clear z0 z1 z2 z3 z4 z5 f Z3
   generalize ((((((w3.setCell (Q,0) (.int .i64 (x.otP p).pr)).setCell (Q,1) (.int .i64 (x.otP p).a1)).setCell (Q,2) (.int .i64 (x.otP p).p1)).setCell (Q,3) (.int .i64 (x.otP p).a2)).setCell (Q,4) (.int .i64 (x.otP p).p2)).setCell (Q,5) (.int .i64 (x.otP p).fl))=w6 at *
   exact bodyPost_ret (v:=.tuple #[Pk.v (x.otP p),.int .i64 (x.otE p:Nat)]) (by simp[results,Tryz.results70,go_sem,q0,q1,q2,q3,q4,q5,Pk.v]) rfl ⟨by rw[HX.1,HX.2.1],W6,M6⟩
 ·have HX:Hid (W.otE p=e1+1/\W.otP p=noP/\W.ots p=W):=⟨by unfold Wo.otE;rw[hc];exact he,by unfold Wo.otP;rw[hc],by unfold Wo.ots;rw[hc]⟩
  rw[he]
  have g0:(0:Int) < ((e1+1:Nat):Int):=by omega
  obtain⟨w9,hst0,hz9,hc9⟩:=pkz_store Z2 noP
  have hst:(Instr.storeAt 144 (.pointer (some (Q,0))) (.agg #[.int .i64 0,.int .i64 0,.int .i64 0,.int .i64 0,.int .i64 0,.int .i64 0])).run Tryz.prog w2=.ok () w9:=hst0
  have W9:Hid (RWd w0 w9 D W u):=W2.fresh LQ HL0.1 hc9
  have M9:Hid (RMv D D w w9):=(RMv.of B2.out).loc hc9 HL0.2
  have Z9:Hid (PkZ w9 Q noP):=hz9
  clear hz9 hc9 hst0 hc he
  obtain⟨ee,hee⟩:∃ee,((e1+1:Nat):Int)=ee:=⟨_,rfl⟩
  have HEE:Hid (((e1+1:Nat):Int)=ee):=hee
  rw[hee]at g0 ⊢
  clear hee
  go_wp2_with (refine wpList_store_eq rfl 144 _ _ rfl _ _ _ rfl rfl hst ?_)
  clear hst
  have q:=Z9.b
  go_wp2_with fail
  exact bodyPost_ret (v:=.tuple #[Pk.v noP,ee]) (by simp[results,Tryz.results70,go_sem,q.c0,q.c1,q.c2,q.c3,q.c4,q.c5,Pk.v]) rfl ⟨by rw[HX.1,HX.2.1,HEE.out],by rw[HX.2.2];exact W9.mono (by omega),M9⟩
section
variable {w0 w:World} {K L:WK} {x:Wo} {t:Nat}
theorem Wd.keptL {w':World} (h:Wd w0 w K x t) {l:List Nat} (h9:∀b ∈ l,K.tag b=9) (hl0:∀b ∈ l,w0.heap.size<=b) (c:ChgL l w w'):Wd w0 w' K x t:=by
 have hl:∀i,i < 5->∀b ∈ l,¬b ∈ K.part i:=fun i hi b hb hm=>by have q1:=(h.tg i hi b hm).1;have q2:=h9 b hb;omega
 have hl5:∀b ∈ l,K.tag b≠5:=fun b hb=>by have:=h9 b hb;omega
 refine⟨?_,h.s0.kept (by omega) c (hl 1 (by omega)) hl5 hl0,h.s1.kept (by omega) c (hl 2 (by omega)) hl5 hl0,?_,h.ro,h.rt,h.fl.kept c (hl 3 (by omega)) hl5,h.ev.kept c (hl 4 (by omega)),h.tg,fun b hb=>h.al b (Nat.le_trans c.size hb),ChgL.below h.bl c hl0⟩
 ·unfold WdB
  rw[c.block _ h.wb.lt (fun hm=>hl 0 (by omega) _ hm (by simp[WK.part]))]
  exact h.wb
 ·refine h.ru.keptB (fun a n c' e=>?_)
  have e2:K.rp=some a:=(Value.slice.inj e).1
  have ht:=h.rt a e2
  exact c.block a.block (h.lt (by omega)) (fun hm=>hl5 _ hm ht)
def Apt (K L:WK):Prop:=∀b,K.tag b=9\/L.tag b=9
theorem Apt.symm (h:Apt K L):Apt L K:=fun b=>(h b).symm
theorem Wd.beside {w':World} {K':WK} {y:Wo} {u:Nat} (h:Wd w0 w L y u) (k:Wd w0 w' K' x t) (m:Mv K K' w w') (a:Apt K L):Wd w0 w' L y u/\Apt K' L:=by
 constructor
 ·refine h.keptL (l:=(List.range w).filter fun b=>decide (L.tag b=9) && decide (w0.heap.size<=b)) (fun b hb=>?_) (fun b hb=>?_) ⟨m.os,m.tape,m.output,m.size,fun b hb hn=>?_⟩
  ·have:=(List.mem_filter.1 hb).2
   simp at this
   exact this.1
  ·have:=(List.mem_filter.1 hb).2
   simp at this
   exact this.2
  ·rcases Nat.lt_or_ge b w0 with q | q
   ·rw[k.bl.block b q,h.bl.block b q]
   ·refine m.block b hb (.inl ((a b).resolve_right fun e=>hn ?_))
    exact List.mem_filter.2 ⟨List.mem_range.2 hb,by simp[e,q]⟩
 ·intro b
  rcases Nat.lt_or_ge b w with q | q
  ·rw[m.tag b q];exact a b
  ·exact .inr (h.al b q)
theorem Apt.born {w1:World} (h:Wd w0 w K x t) (low:∀b,b < w1.heap.size->L.tag b=9) (hs:w.heap.size<=w1.heap.size):Apt K L:=fun b=>by
 rcases Nat.lt_or_ge b w1 with q | q
 ·exact .inr (low b q)
 ·exact .inl (h.al b (Nat.le_trans hs q))
end
section
variable {w0 w w':World} {V:Wo} {q:Nat}
def AptD (K:WK) (D:RK):Prop:=∀b,K.tag b=9\/D.tag b=9
theorem RWd.beside {K K':WK} {D:RK} {x:Wo} {t u:Nat} (d:RWd w0 w D V u) (k:Wd w0 w' K' x t) (m:Mv K K' w w') (a:AptD K D):RWd w0 w' D V u/\AptD K' D:=by
 constructor
 ·refine d.keptL (l:=(List.range w).filter fun b=>decide (D.tag b=9) && decide (w0.heap.size<=b)) (fun b hb=>?_) (fun b hb=>?_) ⟨m.os,m.tape,m.output,m.size,fun b hb hn=>?_⟩
  ·have:=(List.mem_filter.1 hb).2
   simp at this
   exact this.1
  ·have:=(List.mem_filter.1 hb).2
   simp at this
   exact this.2
  ·rcases Nat.lt_or_ge b w0 with q | q
   ·rw[k.bl.block b q,d.bl.block b q]
   ·refine m.block b hb (.inl ((a b).resolve_right fun e=>hn ?_))
    exact List.mem_filter.2 ⟨List.mem_range.2 hb,by simp[e,q]⟩
 ·intro b
  rcases Nat.lt_or_ge b w with q | q
  ·rw[m.tag b q];exact a b
  ·exact .inr (d.al b q)
theorem Wd.besideD {K:WK} {D D':RK} {x:Wo} {t u:Nat} (h:Wd w0 w K x t) (d:RWd w0 w' D' V u) (m:RMv D D' w w') (a:AptD K D):Wd w0 w' K x t/\AptD K D':=by
 constructor
 ·refine h.keptL (l:=(List.range w).filter fun b=>decide (K.tag b=9) && decide (w0.heap.size<=b)) (fun b hb=>?_) (fun b hb=>?_) ⟨m.os,m.tape,m.output,m.size,fun b hb hn=>?_⟩
  ·have:=(List.mem_filter.1 hb).2
   simp at this
   exact this.1
  ·have:=(List.mem_filter.1 hb).2
   simp at this
   exact this.2
  ·rcases Nat.lt_or_ge b w0 with q | q
   ·rw[d.bl.block b q,h.bl.block b q]
   ·refine m.block b hb (.inl ((a b).resolve_left fun e=>hn ?_))
    exact List.mem_filter.2 ⟨List.mem_range.2 hb,by simp[e,q]⟩
 ·intro b
  rcases Nat.lt_or_ge b w with q | q
  ·rw[m.tag b q];exact a b
  ·exact .inl (h.al b q)
def W2 (w0 w:World) (wb db:Nat) (W V:Wo) (q:Nat) (Z:List (Nat×Obj)):Prop :=
 ∃K D t u,Wd w0 w K W t/\RWd w0 w D V u/\AptD K D/\t<=q/\u<=q/\K.wb=wb/\D.wb=db/\(∀i,i < 2->∃b,K.yk i=some b)/\∀z ∈ Z,w.heap[z.1]? = some z.2/\K.tag z.1=9/\D.tag z.1=9
section
variable {w0 w w':World} {wb db q:Nat} {W V W' V':Wo} {Z:List (Nat×Obj)}
theorem heap_lt {b:Nat} {o:Obj} (h:w.heap[b]? = some o):b < w.heap.size:=by
 rcases Nat.lt_or_ge b w with a | a
 ·exact a
 ·rw[Array.getElem?_eq_none a]at h;cases h
theorem W2.bl (h:W2 w0 w wb db W V q Z):Below w0 w0 w:=by obtain⟨K,D,t,u,h1,_⟩:=h;exact h1.bl
theorem W2.below (h:W2 w0 w wb db W V q Z) (hb:Below w w w'):W2 w0 w' wb db W V q Z:=by
 obtain⟨K,D,t,u,h1,h2,h3,h4,h5,h6,h7,h8,h9⟩:=h
 exact⟨K,D,t,u,h1.below hb,h2.below hb,h3,h4,h5,h6,h7,h8,fun z hz=>⟨(hb.block _ (heap_lt (h9 z hz).1)).trans (h9 z hz).1,(h9 z hz).2⟩⟩
theorem W2.mono {q':Nat} (h:W2 w0 w wb db W V q Z) (hq:q<=q'):W2 w0 w wb db W V q' Z:=by
 obtain⟨K,D,t,u,h1,h2,h3,h4,h5,r⟩:=h
 exact⟨K,D,t,u,h1,h2,h3,by omega,by omega,r⟩
theorem W2.alloc (h:W2 w0 w wb db W V q Z) (o:Obj):W2 w0 (w.alloc o) wb db W V q ((w.heap.size,o)::Z):=by
 obtain⟨K,D,t,u,h1,h2,h3,h4,h5,h6,h7,h8,h9⟩:=h
 refine⟨K,D,t,u,h1.below (aB _ _),h2.below (aB _ _),h3,h4,h5,h6,h7,h8,fun z hz=>?_⟩
 rcases List.mem_cons.1 hz with rfl | hz
 ·exact⟨heap_alloc_new _ _,h1.al _ (Nat.le_refl _),h2.al _ (Nat.le_refl _)⟩
 ·exact⟨((aB w o).block _ (heap_lt (h9 z hz).1)).trans (h9 z hz).1,(h9 z hz).2⟩
theorem W2.cell (h:W2 w0 w wb db W V q Z) {b:Nat} {cs:Array Value} {T:TypeId} (hz:(b,Obj.cells cs T (0,0)) ∈ Z) (j:Nat):w.cell? (b,j)=cs[j]? := by
 obtain⟨K,D,t,u,_,_,_,_,_,_,_,_,h9⟩:=h
 exact cell_of_row _ _ _ _ _ _ (h9 _ hz).1
end
theorem W2.stepP {wb db:Nat} {W':Wo} {Z:List (Nat×Obj)} {K K':WK} {D:RK} {t' u:Nat} (h2:RWd w0 w D V u) (h3:AptD K D) (k:Wd w0 w' K' W' t') (m:Mv K K' w w') (ht:t'<=q) (hu:u<=q) (hw:K.wb=wb) (hd:D.wb=db) (hy:∀i,i < 2->∃b,K.yk i=some b) (hz:∀z ∈ Z,w.heap[z.1]? = some z.2/\K.tag z.1=9/\D.tag z.1=9):W2 w0 w' wb db W' V q Z:=by
 obtain⟨b1,b2⟩:=h2.beside k m h3
 refine⟨K',D,t',u,k,b1,b2,ht,hu,m.wb.trans hw,hd,by rw[m.yk];exact hy,fun z hz'=>?_⟩
 obtain⟨q1,q2,q3⟩:=hz z hz'
 have hl:=heap_lt q1
 exact⟨(m.block _ hl (.inl q2)).trans q1,by rw[m.tag _ hl];exact q2,q3⟩
theorem W2.stepD {wb db:Nat} {W V':Wo} {Z:List (Nat×Obj)} {K:WK} {D D':RK} {t u':Nat} (h1:Wd w0 w K W t) (h3:AptD K D) (k:RWd w0 w' D' V' u') (m:RMv D D' w w') (ht:t<=q) (hu:u'<=q) (hw:K.wb=wb) (hd:D.wb=db) (hy:∀i,i < 2->∃b,K.yk i=some b) (hz:∀z ∈ Z,w.heap[z.1]? = some z.2/\K.tag z.1=9/\D.tag z.1=9):W2 w0 w' wb db W V' q Z:=by
 obtain⟨b1,b2⟩:=h1.besideD k m h3
 refine⟨K,D',t,u',b1,k,b2,ht,hu,hw,m.wb.trans hd,hy,fun z hz'=>?_⟩
 obtain⟨q1,q2,q3⟩:=hz z hz'
 have hl:=heap_lt q1
 exact⟨(m.block _ hl (.inl q3)).trans q1,q2,by rw[m.tag _ hl];exact q3⟩
structure PI (q:Nat) (W:Wo):Prop where
 i:In (q+1) W
 l:Lv W
theorem PI.stp {W W':Wo} (h:PI q W) (hq:q<=90000) (hr:RulesOk W.ru) (s:Stp W W'):PI (q+1) W' :=
 ⟨h.i.stp (by omega) hr s,h.l.stp h.i (by omega) hr s⟩
section
variable {w0 w w':World} {wb db q:Nat} {W V:Wo} {Z:List (Nat×Obj)} {s:Nat->Addr}
theorem W2.tick_p (S:SeM w0 s) (h:W2 w0 w wb db W V q Z) (_hq:q<=2600) (n:Int) (I:In (q+1) W) :
  Calls Tryz.prog 16 #[.pointer (some (wb,0)),n] w fun e w'=>e=.returned (terr s (W.tcE n))/\W2 w0 w' wb db (W.tcd n) V (q+1) Z:=by
 obtain⟨K,D,t,u,h1,h2,h3,h4,h5,rfl,h7,h8,h9⟩:=h
 refine(tick_wd S h1 (by omega) n (fun i y _ hy=>(I.up i y hy).tkE (by omega))).mono ?_
 rintro e w' ⟨rfl,K',wd,m⟩
 exact⟨rfl,W2.stepP h2 h3 wd m (by omega) (by omega) rfl h7 h8 h9⟩
theorem W2.tick_d (h:W2 w0 w wb db W V q Z) (_hq:q<=2600) (n:Int) (hE:TkOk V n) :
  Calls Tryz.prog 38 #[.pointer (some (db,0)),n] w fun e w'=>e=.returned (.int .i64 (V.tcE n:Nat))/\W2 w0 w' wb db W (V.tcd n) (q+1) Z:=by
 obtain⟨K,D,t,u,h1,h2,h3,h4,h5,h6,rfl,h8,h9⟩:=h
 refine(dtick_any h2 (by omega) n hE).mono ?_
 rintro e w' ⟨rfl,D',wd,m⟩
 exact⟨rfl,W2.stepD h1 h3 wd m (by omega) (by omega) h6 rfl h8 h9⟩
end
end
section
variable {w:World} {D:RK} {W:Wo}
def OneV (w0 w:World) (D:RK) (u:Nat) (r:Nat×Wo) (e:Ending) (w':World):Prop:=e=.returned (.int .i64 (r.1:Nat))/\∃D',RWd w0 w' D' r.2 (u+10)/\RMv D D' w w'
theorem OneV.of {w0 w':World} {D':RK} {u u':Nat} {r:Nat×Wo} {e:Ending} {c:Nat} {V:Wo} (hr:r=(c,V)) (he:e=.returned (.int .i64 (c:Nat))) (h:RWd w0 w' D' V u') (hu:u'<=u+10) (m:RMv D D' w w'):OneV w0 w D u r e w':=by
 subst hr
 exact⟨he,D',h.mono hu,m⟩
theorem RFl.sl (h:RFl w D W):∃p cap,D.lv=.slice p W.fl.length cap:=by
 rcases ownsRow_cases h.own with⟨e,e0⟩ | ⟨g,cap,e,_⟩
 ·exact⟨none,0,by rw[e,e0]⟩
 ·exact⟨_,_,e⟩
theorem pac_none (h:W.fl.length=0) {q k:Int} (hk:k < 5):pac W q k=(4,W):=by
 have e0:W.pk q=0:=if_pos h
 have e1:W.flE 0=4:=by unfold Wo.flE;rw[if_neg (by omega)]
 unfold pac
 rw[e0]
 by_cases h2:k<=2
 ·rw[if_pos h2,e1];unfold Wo.dlv;rw[if_neg (by rw[e1];omega)]
 rw[if_neg h2]
 by_cases h3:k=3
 ·rw[if_pos h3,e1];unfold Wo.dropped;rw[if_neg (by rw[e1];omega)]
 rw[if_neg h3,if_pos (by omega)]
 have e2:W.twE 0=4:=by unfold Wo.twE;simp[e1]
 rw[e2];unfold Wo.twiced;rw[if_neg (by rw[e2];omega)]
theorem done_any {w0:World} {u i:Nat} (h:RWd w0 w D W u) (P:PL i W) (hi:i+10<=90000) (hu:u+10<=90000) (v:Int) (v1:v<=9223372036854775807) :
  Calls Tryz.prog 29 #[.pointer (some (D.wb,0)),v] w fun e w'=>e=.returned (.int .i64 (stA W v))/\∃D',RWd w0 w' D' (stW W v) (u+10)/\RMv D D' w w':=by
 have HW:Hid (RWd w0 w D W u/\PL i W/\i+10<=90000/\u+10<=90000):=⟨h,P,hi,hu⟩
 have c3:w.cell? (D.wb,3)=some D.lv:=(h.wb.c 3).trans rfl
 obtain⟨lp,lc,el⟩:=h.fl.sl
 rw[el]at c3
 have lb:=h.wb.lt
 have l200:=h.fl.le
 clear h P hi hu el
 by_cases h0:v < 0
 ·have HA:Hid (stA W v = -1/\stW W v=W):=⟨if_pos h0,if_pos h0⟩
  go_enter Tryz.func29,Tryz.ntmps29
  go_wp2_with fail
  go_ret
  exact⟨by rw[HA.1];rfl,D,by rw[HA.2];exact HW.1.mono (by omega),RMv.of (Below.refl _ _)⟩
 have v0:0<=v:=by omega
 obtain⟨q,hq⟩:∃q,v / 16=q:=⟨_,rfl⟩
 obtain⟨k,hk⟩:∃k,v % 16=k:=⟨_,rfl⟩
 have q0:0<=q:=by omega
 have q1:q<=9223372036854775807:=by omega
 have HA:Hid (stA W v=((pac W q k).1:Int)/\stW W v=(pac W q k).2):=by
  refine⟨?_,?_⟩
  ·show stA W v=_;unfold stA;rw[if_neg h0,hq,hk]
  ·show stW W v=_;unfold stW;rw[if_neg h0,hq,hk]
 have hfin:∀e w',OneV w0 w D u (pac W q k) e w'->e=.returned (.int .i64 (stA W v))/\∃D',RWd w0 w' D' (stW W v) (u+10)/\RMv D D' w w':=fun e w' o=>by rw[HA.1,HA.2];exact o
 refine Calls.mono (R:=fun e w'=>OneV w0 w D u (pac W q k) e w') ?_ hfin
 have hk16:0<=k/\k < 16:=by omega
 clear hfin HA
 have n0:(0:Int)<=q % 2:=by omega
 have n1:q % 2 < 2:=by omega
 have d0:(0:Int)<=q / 2:=by omega
 have d1:(0:Int)<=q / 2 % 30:=by omega
 have d2:q / 2 % 30 < 30:=by omega
 by_cases h5:k < 5
 ·by_cases hz:W.fl.length=0
  ·rw[pac_none hz h5]
   rw[hz]at c3
   have R:Hid (OneV w0 w D u (4,W) (.returned (.int .i64 4)) w):=OneV.of rfl rfl HW.1 (by omega) (RMv.of (Below.refl _ _))
   clear hz l200
   go_enter Tryz.func29,Tryz.ntmps29
   go_wp2_with fail
   go_ret
   exact R
  ·have HE:Hid (W.pk q=q % (W.fl.length:Int)):=if_neg hz
   have h1:((W.fl.length:Int)==0)=false:=beq_eq_false_iff_ne.2 (by omega)
   have h2:(0:Int) < (W.fl.length:Int):=by omega
   have h3:¬(W.fl.length:Int)=0:=by omega
   have h4:(W.fl.length:Int)<=200:=by omega
   have HX:Hid ((k<=2->pac W q k=(W.flE (q % (W.fl.length:Int)),W.dlv (q % (W.fl.length:Int))))/\(k=3->pac W q k=(W.flE (q % (W.fl.length:Int)),W.dropped (q % (W.fl.length:Int))))/\(k=4->pac W q k=(W.twE (q % (W.fl.length:Int)),W.twiced (q % (W.fl.length:Int))))):=by
    rw[<- HE.out]
    refine⟨fun e=>?_,fun e=>?_,fun e=>?_⟩
    ·unfold pac;rw[if_pos e]
    ·subst e;rfl
    ·subst e;rfl
   clear hz l200
   generalize hx:q % (W.fl.length:Int)=x at *
   rcases(by omega:(k=0\/k=1\/k=2)\/k=3\/k=4) with hc | rfl | rfl
   ·have HY:=HX.1 (by omega)
    rcases hc with rfl | rfl | rfl
    all_goals
     go_enter Tryz.func29,Tryz.ntmps29
     go_wp2_with fail
     refine(ddlv_any HW.1 HW.2.1.l.swOk HW.2.1.l.flOk x).mono ?_
     rintro e w3 ⟨rfl,D3,wd3,m3⟩
     have R:Hid (OneV w0 w D u _ (.returned (.int .i64 (W.flE x:Nat))) w3):=OneV.of HY rfl wd3 (by omega) m3
     clear wd3 m3
     go_wp2_with fail
     go_ret
     exact R
   ·have HY:=HX.2.1 rfl
    go_enter Tryz.func29,Tryz.ntmps29
    go_wp2_with fail
    refine(ddrop_any HW.1 x).mono ?_
    rintro e w3 ⟨rfl,D3,wd3,m3⟩
    have R:Hid (OneV w0 w D u _ (.returned (.int .i64 (W.flE x:Nat))) w3):=OneV.of HY rfl wd3 (by omega) m3
    clear wd3 m3
    go_wp2_with fail
    go_ret
    exact R
   ·have HY:=HX.2.2 rfl
    go_enter Tryz.func29,Tryz.ntmps29
    go_wp2_with fail
    refine(dtwice_any HW.1 x).mono ?_
    rintro e w3 ⟨rfl,D3,wd3,m3⟩
    have R:Hid (OneV w0 w D u _ (.returned (.int .i64 (W.twE x:Nat))) w3):=OneV.of HY rfl wd3 (by omega) m3
    clear wd3 m3
    go_wp2_with fail
    go_ret
    exact R
 ·clear c3 l200
  rcases(by omega:(k=5\/k=6)\/k=7\/(k=8\/k=9)\/(k=10\/k=11)\/k=12\/k=13\/k=14\/k=15) with hc | rfl | hc | hc | rfl | rfl | rfl | rfl
  ·rcases hc with rfl | rfl
   all_goals
    go_enter Tryz.func29,Tryz.ntmps29
    go_wp2_with fail
    refine(dtick_any HW.1 (by have:=HW.out;omega) (q % 2) (HW.2.1.l.tkOk HW.2.1.i (by have:=HW.out;omega) _)).mono ?_
    rintro e w3 ⟨rfl,D3,wd3,m3⟩
    have R:Hid (OneV w0 w D u _ (.returned (.int .i64 (W.tcE (q % 2):Nat))) w3):=OneV.of rfl rfl wd3 (by omega) m3
    clear wd3 m3
    go_wp2_with fail
    go_ret
    exact R
  ·go_enter Tryz.func29,Tryz.ntmps29
   go_wp2_with fail
   refine(dticks_any HW.1 HW.2.1 10 (by omega) (by have:=HW.out;omega) (by have:=HW.out;omega) (q % 2)).mono ?_
   rintro e w3 ⟨rfl,D3,wd3,m3⟩
   have R:Hid (OneV w0 w D u _ (.returned (.int .i64 ((wt (q % 2) 10 W).1:Nat))) w3):=OneV.of rfl rfl wd3 (by omega) m3
   clear wd3 m3
   go_wp2_with fail
   go_ret
   exact R
  ·rcases hc with rfl | rfl
   all_goals
    go_enter Tryz.func29,Tryz.ntmps29
    go_wp2_with fail
    refine(insideOf_any q q0 q1 w).mono ?_
    rintro e w2 ⟨rfl,b2⟩
    have B2:Hid (Below w w w2):=b2
    clear b2
    go_wp2_with fail
    refine(dcarry_in (HW.1.below B2) HW.2.1.l.swOk (by have:=HW.out;omega) (pkI q)).mono ?_
    rintro e w3 ⟨rfl,wd3,m3⟩
    have R:Hid (OneV w0 w D u _ (.returned (.int .i64 (W.inE (pkI q):Nat))) w3):=OneV.of rfl rfl wd3 (by omega) ((RMv.of B2.out).trans m3)
    clear wd3 m3
    go_wp2_with fail
    go_ret
    exact R
  ·rcases hc with rfl | rfl
   all_goals
    go_enter Tryz.func29,Tryz.ntmps29
    go_wp2_with fail
    refine(outsideOf_any q q0 q1 w).mono ?_
    rintro e w2 ⟨rfl,b2⟩
    have B2:Hid (Below w w w2):=b2
    clear b2
    go_wp2_with fail
    refine(dcarry_out (HW.1.below B2) HW.2.1.l.swOk (by have:=HW.out;omega) (pkO q)).mono ?_
    rintro e w3 ⟨rfl,wd3,m3⟩
    have R:Hid (OneV w0 w D u _ (.returned (.int .i64 (W.otE (pkO q):Nat))) w3):=OneV.of rfl rfl wd3 (by omega) ((RMv.of B2.out).trans m3)
    clear wd3 m3
    go_wp2_with fail
    go_ret
    exact R
  ·go_enter Tryz.func29,Tryz.ntmps29
   go_wp2_with fail
   refine(ddown_any HW.1 (q % 2)).mono ?_
   rintro e w3 ⟨rfl,D3,wd3,m3⟩
   have R:Hid (OneV w0 w D u _ (.returned (.int .i64 (W.upE (q % 2):Nat))) w3):=OneV.of rfl rfl wd3 (by omega) m3
   clear wd3 m3
   go_wp2_with fail
   go_ret
   exact R
  ·go_enter Tryz.func29,Tryz.ntmps29
   go_wp2_with fail
   refine(dup_any HW.1 (by have:=HW.out;omega) (q % 2) (fun j _ hj hn=>(HW.2.1.i.dn j hj hn).newOk (by have:=HW.out;omega) hj HW.2.1.r)).mono ?_
   rintro e w3 ⟨rfl,D3,wd3,m3⟩
   have R:Hid (OneV w0 w D u _ (.returned (.int .i64 (W.roE (q % 2):Nat))) w3):=OneV.of rfl rfl wd3 (by omega) m3
   clear wd3 m3
   go_wp2_with fail
   go_ret
   exact R
  ·go_enter Tryz.func29,Tryz.ntmps29
   go_wp2_with fail
   refine(dcut_any HW.1 (q % 2) (q / 2 % 30) (by omega)).mono ?_
   rintro e w3 ⟨rfl,wd3,m3⟩
   have R:Hid (OneV w0 w D u _ (.returned (.int .i64 (W.ctE (q % 2) (q / 2 % 30):Nat))) w3):=OneV.of rfl rfl wd3 (by omega) m3
   clear wd3 m3
   go_wp2_with fail
   go_ret
   exact R
  ·go_enter Tryz.func29,Tryz.ntmps29
   go_wp2_with fail
   go_ret
   exact OneV.of rfl rfl HW.1 (by omega) (RMv.of (Below.refl _ _))
end
def RdN (w:World) (p:Option Addr) (xs:List Int):Prop:=∀(j:Nat) x,xs[j]? = some x->∃b o,p=some ⟨b,o,none⟩/\w.cell? ⟨b,o+j,none⟩=some (.int .i64 x)
theorem RdN.below {w w':World} {p:Option Addr} {xs:List Int} (h:RdN w p xs) (hb:Below w w w'):RdN w' p xs:=fun j x hx=>by
 obtain⟨b,o,e,c⟩:=h j x hx
 exact⟨b,o,e,tk hb c⟩
theorem sints_same (p r:Option Addr) (ca cb:Nat) (xs:List Int) (w:World) (A:RdN w p xs) (B:RdN w r xs) (hn:xs.length<=3000) :
  Calls Tryz.prog 9 #[.slice p xs.length ca,.slice r xs.length cb] w fun e w'=>e=.returned (.bool true)/\Below w w w':=by
 have HA:Hid (RdN w p xs):=A
 have HB:Hid (RdN w r xs):=B
 have n0:(xs.length:Int)<=3000:=by omega
 clear A B
 go_enter Tryz.func9,Tryz.ntmps9
 go_wp2_with fail
 go_loopw [5] (fun t wr=>∃j:Nat,j<=xs.length/\t=.int .i64 j/\Below w w wr) (fun t _=>xs.length - (intOf t).toNat)
 case atStart=>exact⟨0,by omega,rfl,Below.refl _ _⟩
 case round =>
  obtain⟨j,hj,rfl,hbr⟩:=hrel
  have B1:Hid (Below w w wr):=hbr
  clear hbr
  by_cases hlt:j < xs.length
  ·obtain⟨x,hx⟩:∃x,xs[j]? = some x:=⟨_,List.getElem?_eq_getElem hlt⟩
   obtain⟨g1,o1,rfl,hc1⟩:=HA.below B1 j x hx
   obtain⟨g2,o2,rfl,hc2⟩:=HB.below B1 j x hx
   have i0:(0:Int)<=(j:Int):=by omega
   have i1:(j:Int) < (xs.length:Int):=by omega
   have B2:Hid (Below w w wr.drew):=B1.drew
   clear hx HA HB
   go_wp2_with fail
   go_region
   all_goals
    go_wp2_with fail
    go_roundw
    case rel=>exact⟨j+1,by omega,by go_num,B2⟩
    case measure=>simp[intOf];omega
  ·have hlt':¬(j:Int) < (xs.length:Int):=by omega
   go_wp2_with fail
   go_ret
   exact⟨rfl,B1⟩
end Go.Proofs.YtdpmeoflgpaljaaGreatDoor
